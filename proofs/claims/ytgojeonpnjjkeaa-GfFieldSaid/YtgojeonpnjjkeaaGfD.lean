/- The law GfField: walk. -/
import Derived.Test.YtgojeonpnjjkeaaGfC
namespace Go.Proofs.Ytgojeonpnjjkeaa
open Go.RowKit
set_option linter.unusedVariables false

theorem add_to (a b r : Nat) (w : World) (ha : a < 256) (hb : b < 256) (h : Hid (a ^^^ b = r)) :
    Calls Try.prog 9 #[.int .u8 a, .int .u8 b] w fun e w' => e = .returned (.int .u8 r) ∧ w = w' := by
  have := add_any a b w ha hb
  rwa [h.out] at this
theorem mul_to (a b r : Nat) (w : World) (ha : a < 256) (hb : b < 256) (h : Hid (gmul a b = r)) :
    Calls Try.prog 11 #[.int .u8 a, .int .u8 b] w fun e w' => e = .returned (.int .u8 r) ∧ w = w' := by
  have := mul_any a b w ha hb
  rwa [h.out] at this

set_option maxRecDepth 100000 in
set_option maxHeartbeats 4000000 in
theorem gfField_zero (b c p q r s t u v m : Nat) (a : Nat) (h0 : Hid (a = 0)) (w : World) (ha : a < 256) (hb : b < 256) (hc : c < 256) (hp : p < 256) (hq : q < 256) (hr : r < 256) (hs : s < 256) (ht : t < 256) (hu : u < 256) (hv : v < 256) (hm : m < 256)
    (H_add_a_b : Hid (a ^^^ b = p)) (H_add_b_a : Hid (b ^^^ a = p)) (H_mul_a_b : Hid (gmul a b = q)) (H_mul_b_a : Hid (gmul b a = q)) (H_add_p_c : Hid (p ^^^ c = r)) (H_add_b_c : Hid (b ^^^ c = s)) (H_add_a_s : Hid (a ^^^ s = r)) (H_mul_q_c : Hid (gmul q c = t)) (H_mul_b_c : Hid (gmul b c = u)) (H_mul_a_u : Hid (gmul a u = t)) (H_mul_a_s : Hid (gmul a s = v)) (H_mul_a_c : Hid (gmul a c = m)) (H_add_q_m : Hid (q ^^^ m = v)) (H_add_a_a : Hid (a ^^^ a = 0)) (H_mul_a_1 : Hid (gmul a 1 = a)) (H_mul_a_0 : Hid (gmul a 0 = 0)) :
    Calls Try.prog 4 #[.int .u8 a, .int .u8 b, .int .u8 c] w fun e w' => e = .returned (.bool true) ∧ Below w.heap.size w w' := by
  have hz : ((a : Int) == 0) = true := by rw [beq_iff_eq, h0.out]; rfl
  have HI := Lib.hid (fun w => inv_any a w ha)
  rw [show ginv a = 0 from if_pos h0.out] at HI
  go_enter Try.func4, Try.ntmps4
  go_wp2_with fail
  refine (add_to a b p _ (by omega) (by omega) H_add_a_b).mono ?_
  rintro e w' ⟨rfl, rfl⟩
  go_wp2_with fail
  refine (add_to b a p _ (by omega) (by omega) H_add_b_a).mono ?_
  rintro e w' ⟨rfl, rfl⟩
  go_wp2_with fail
  refine (mul_to a b q _ (by omega) (by omega) H_mul_a_b).mono ?_
  rintro e w' ⟨rfl, rfl⟩
  go_wp2_with fail
  refine (mul_to b a q _ (by omega) (by omega) H_mul_b_a).mono ?_
  rintro e w' ⟨rfl, rfl⟩
  go_wp2_with fail
  refine (add_to a b p _ (by omega) (by omega) H_add_a_b).mono ?_
  rintro e w' ⟨rfl, rfl⟩
  go_wp2_with fail
  refine (add_to p c r _ (by omega) (by omega) H_add_p_c).mono ?_
  rintro e w' ⟨rfl, rfl⟩
  go_wp2_with fail
  refine (add_to b c s _ (by omega) (by omega) H_add_b_c).mono ?_
  rintro e w' ⟨rfl, rfl⟩
  go_wp2_with fail
  refine (add_to a s r _ (by omega) (by omega) H_add_a_s).mono ?_
  rintro e w' ⟨rfl, rfl⟩
  go_wp2_with fail
  refine (mul_to a b q _ (by omega) (by omega) H_mul_a_b).mono ?_
  rintro e w' ⟨rfl, rfl⟩
  go_wp2_with fail
  refine (mul_to q c t _ (by omega) (by omega) H_mul_q_c).mono ?_
  rintro e w' ⟨rfl, rfl⟩
  go_wp2_with fail
  refine (mul_to b c u _ (by omega) (by omega) H_mul_b_c).mono ?_
  rintro e w' ⟨rfl, rfl⟩
  go_wp2_with fail
  refine (mul_to a u t _ (by omega) (by omega) H_mul_a_u).mono ?_
  rintro e w' ⟨rfl, rfl⟩
  go_wp2_with fail
  refine (add_to b c s _ (by omega) (by omega) H_add_b_c).mono ?_
  rintro e w' ⟨rfl, rfl⟩
  go_wp2_with fail
  refine (mul_to a s v _ (by omega) (by omega) H_mul_a_s).mono ?_
  rintro e w' ⟨rfl, rfl⟩
  go_wp2_with fail
  refine (mul_to a b q _ (by omega) (by omega) H_mul_a_b).mono ?_
  rintro e w' ⟨rfl, rfl⟩
  go_wp2_with fail
  refine (mul_to a c m _ (by omega) (by omega) H_mul_a_c).mono ?_
  rintro e w' ⟨rfl, rfl⟩
  go_wp2_with fail
  refine (add_to q m v _ (by omega) (by omega) H_add_q_m).mono ?_
  rintro e w' ⟨rfl, rfl⟩
  go_wp2_with fail
  refine (add_to a a 0 _ (by omega) (by omega) H_add_a_a).mono ?_
  rintro e w' ⟨rfl, rfl⟩
  go_wp2_with fail
  refine (mul_to a 1 a _ (by omega) (by omega) H_mul_a_1).mono ?_
  rintro e w' ⟨rfl, rfl⟩
  go_wp2_with fail
  refine (mul_to a 0 0 _ (by omega) (by omega) H_mul_a_0).mono ?_
  rintro e w' ⟨rfl, rfl⟩
  go_wp2_with fail
  refine (awake02 _).mono ?_
  rintro e w1 ⟨rfl, b1⟩
  go_wp2_with fail
  refine (HI.out _).mono ?_
  rintro e w2 ⟨rfl, b2⟩
  go_wp2
  go_ret
  exact ⟨rfl, below_trans b1 b2⟩

set_option maxRecDepth 100000 in
set_option maxHeartbeats 4000000 in
theorem gfField_more (b c p q r s t u v m i : Nat) (a : Nat) (h0 : Hid (a ≠ 0)) (w : World) (ha : a < 256) (hb : b < 256) (hc : c < 256) (hp : p < 256) (hq : q < 256) (hr : r < 256) (hs : s < 256) (ht : t < 256) (hu : u < 256) (hv : v < 256) (hm : m < 256)
    (H_add_a_b : Hid (a ^^^ b = p)) (H_add_b_a : Hid (b ^^^ a = p)) (H_mul_a_b : Hid (gmul a b = q)) (H_mul_b_a : Hid (gmul b a = q)) (H_add_p_c : Hid (p ^^^ c = r)) (H_add_b_c : Hid (b ^^^ c = s)) (H_add_a_s : Hid (a ^^^ s = r)) (H_mul_q_c : Hid (gmul q c = t)) (H_mul_b_c : Hid (gmul b c = u)) (H_mul_a_u : Hid (gmul a u = t)) (H_mul_a_s : Hid (gmul a s = v)) (H_mul_a_c : Hid (gmul a c = m)) (H_add_q_m : Hid (q ^^^ m = v)) (H_add_a_a : Hid (a ^^^ a = 0)) (H_mul_a_1 : Hid (gmul a 1 = a)) (H_mul_a_0 : Hid (gmul a 0 = 0)) (hi : i < 256) (HV : Hid (ginv a = i)) (HM : Hid (gmul a i = 1)) :
    Calls Try.prog 4 #[.int .u8 a, .int .u8 b, .int .u8 c] w fun e w' => e = .returned (.bool true) ∧ Below w.heap.size w w' := by
  have hz : ((a : Int) == 0) = false := by rw [beq_eq_false_iff_ne]; have := h0.out; omega
  have hz' : ((a : Int) != 0) = true := by rw [bne_iff_ne]; have := h0.out; omega
  have HI := Lib.hid (fun w => inv_any a w ha)
  rw [HV.out] at HI
  go_enter Try.func4, Try.ntmps4
  go_wp2_with fail
  refine (add_to a b p _ (by omega) (by omega) H_add_a_b).mono ?_
  rintro e w' ⟨rfl, rfl⟩
  go_wp2_with fail
  refine (add_to b a p _ (by omega) (by omega) H_add_b_a).mono ?_
  rintro e w' ⟨rfl, rfl⟩
  go_wp2_with fail
  refine (mul_to a b q _ (by omega) (by omega) H_mul_a_b).mono ?_
  rintro e w' ⟨rfl, rfl⟩
  go_wp2_with fail
  refine (mul_to b a q _ (by omega) (by omega) H_mul_b_a).mono ?_
  rintro e w' ⟨rfl, rfl⟩
  go_wp2_with fail
  refine (add_to a b p _ (by omega) (by omega) H_add_a_b).mono ?_
  rintro e w' ⟨rfl, rfl⟩
  go_wp2_with fail
  refine (add_to p c r _ (by omega) (by omega) H_add_p_c).mono ?_
  rintro e w' ⟨rfl, rfl⟩
  go_wp2_with fail
  refine (add_to b c s _ (by omega) (by omega) H_add_b_c).mono ?_
  rintro e w' ⟨rfl, rfl⟩
  go_wp2_with fail
  refine (add_to a s r _ (by omega) (by omega) H_add_a_s).mono ?_
  rintro e w' ⟨rfl, rfl⟩
  go_wp2_with fail
  refine (mul_to a b q _ (by omega) (by omega) H_mul_a_b).mono ?_
  rintro e w' ⟨rfl, rfl⟩
  go_wp2_with fail
  refine (mul_to q c t _ (by omega) (by omega) H_mul_q_c).mono ?_
  rintro e w' ⟨rfl, rfl⟩
  go_wp2_with fail
  refine (mul_to b c u _ (by omega) (by omega) H_mul_b_c).mono ?_
  rintro e w' ⟨rfl, rfl⟩
  go_wp2_with fail
  refine (mul_to a u t _ (by omega) (by omega) H_mul_a_u).mono ?_
  rintro e w' ⟨rfl, rfl⟩
  go_wp2_with fail
  refine (add_to b c s _ (by omega) (by omega) H_add_b_c).mono ?_
  rintro e w' ⟨rfl, rfl⟩
  go_wp2_with fail
  refine (mul_to a s v _ (by omega) (by omega) H_mul_a_s).mono ?_
  rintro e w' ⟨rfl, rfl⟩
  go_wp2_with fail
  refine (mul_to a b q _ (by omega) (by omega) H_mul_a_b).mono ?_
  rintro e w' ⟨rfl, rfl⟩
  go_wp2_with fail
  refine (mul_to a c m _ (by omega) (by omega) H_mul_a_c).mono ?_
  rintro e w' ⟨rfl, rfl⟩
  go_wp2_with fail
  refine (add_to q m v _ (by omega) (by omega) H_add_q_m).mono ?_
  rintro e w' ⟨rfl, rfl⟩
  go_wp2_with fail
  refine (add_to a a 0 _ (by omega) (by omega) H_add_a_a).mono ?_
  rintro e w' ⟨rfl, rfl⟩
  go_wp2_with fail
  refine (mul_to a 1 a _ (by omega) (by omega) H_mul_a_1).mono ?_
  rintro e w' ⟨rfl, rfl⟩
  go_wp2_with fail
  refine (mul_to a 0 0 _ (by omega) (by omega) H_mul_a_0).mono ?_
  rintro e w' ⟨rfl, rfl⟩
  go_wp2_with fail
  refine (awake02 _).mono ?_
  rintro e w1 ⟨rfl, b1⟩
  go_wp2_with fail
  refine (HI.out _).mono ?_
  rintro e w2 ⟨rfl, b2⟩
  go_wp2_with fail
  refine (mul_to a i 1 _ (by omega) (by omega) HM).mono ?_
  rintro e w' ⟨rfl, rfl⟩
  go_wp2
  go_ret
  exact ⟨rfl, below_trans b1 b2⟩

theorem ginv_lt (a : Nat) (ha : a < 256) : ginv a < 256 := by
  unfold ginv
  split
  · omega
  · exact agGo_lt _ _ _ _ ha (by omega)
theorem gfField_nat (a b c : Nat) (w : World) (ha : a < 256) (hb : b < 256) (hc : c < 256) :
    Calls Try.prog 4 #[.int .u8 a, .int .u8 b, .int .u8 c] w fun e w' => e = .returned (.bool true) ∧ Below w.heap.size w w' := by
  have hab := xor_lt a b ha hb
  have hbc := xor_lt b c hb hc
  by_cases h0 : a = 0
  · exact gfField_zero b c (a ^^^ b) (gmul a b) (a ^^^ b ^^^ c) (b ^^^ c) (gmul (gmul a b) c) (gmul b c) (gmul a (b ^^^ c)) (gmul a c) a (Lib.hid h0) w ha hb hc hab (gmul_lt _ _ ha) (xor_lt _ _ hab hc) hbc (gmul_lt _ _ (gmul_lt _ _ ha)) (gmul_lt _ _ hb) (gmul_lt _ _ ha) (gmul_lt _ _ ha)
      (Lib.hid (by show a ^^^ b = (a ^^^ b); exact rfl)) (Lib.hid (by show b ^^^ a = (a ^^^ b); exact (Nat.xor_comm b a))) (Lib.hid (by show gmul a b = (gmul a b); exact rfl)) (Lib.hid (by show gmul b a = (gmul a b); exact (gmul_comm b a hb ha))) (Lib.hid (by show (a ^^^ b) ^^^ c = (a ^^^ b ^^^ c); exact rfl)) (Lib.hid (by show b ^^^ c = (b ^^^ c); exact rfl)) (Lib.hid (by show a ^^^ (b ^^^ c) = (a ^^^ b ^^^ c); exact (Nat.xor_assoc a b c).symm)) (Lib.hid (by show gmul (gmul a b) c = (gmul (gmul a b) c); exact rfl)) (Lib.hid (by show gmul b c = (gmul b c); exact rfl)) (Lib.hid (by show gmul a (gmul b c) = (gmul (gmul a b) c); exact (gmul_assoc a b c ha hb hc).symm)) (Lib.hid (by show gmul a (b ^^^ c) = (gmul a (b ^^^ c)); exact rfl)) (Lib.hid (by show gmul a c = (gmul a c); exact rfl)) (Lib.hid (by show (gmul a b) ^^^ (gmul a c) = (gmul a (b ^^^ c)); exact (gmul_add_right a b c).symm)) (Lib.hid (by show a ^^^ a = 0; exact (Nat.xor_self a))) (Lib.hid (by show gmul a 1 = a; exact (gmul_one a))) (Lib.hid (by show gmul a 0 = 0; exact (gmul_zero a)))
  · exact gfField_more b c (a ^^^ b) (gmul a b) (a ^^^ b ^^^ c) (b ^^^ c) (gmul (gmul a b) c) (gmul b c) (gmul a (b ^^^ c)) (gmul a c) (ginv a) a (Lib.hid h0) w ha hb hc hab (gmul_lt _ _ ha) (xor_lt _ _ hab hc) hbc (gmul_lt _ _ (gmul_lt _ _ ha)) (gmul_lt _ _ hb) (gmul_lt _ _ ha) (gmul_lt _ _ ha)
      (Lib.hid (by show a ^^^ b = (a ^^^ b); exact rfl)) (Lib.hid (by show b ^^^ a = (a ^^^ b); exact (Nat.xor_comm b a))) (Lib.hid (by show gmul a b = (gmul a b); exact rfl)) (Lib.hid (by show gmul b a = (gmul a b); exact (gmul_comm b a hb ha))) (Lib.hid (by show (a ^^^ b) ^^^ c = (a ^^^ b ^^^ c); exact rfl)) (Lib.hid (by show b ^^^ c = (b ^^^ c); exact rfl)) (Lib.hid (by show a ^^^ (b ^^^ c) = (a ^^^ b ^^^ c); exact (Nat.xor_assoc a b c).symm)) (Lib.hid (by show gmul (gmul a b) c = (gmul (gmul a b) c); exact rfl)) (Lib.hid (by show gmul b c = (gmul b c); exact rfl)) (Lib.hid (by show gmul a (gmul b c) = (gmul (gmul a b) c); exact (gmul_assoc a b c ha hb hc).symm)) (Lib.hid (by show gmul a (b ^^^ c) = (gmul a (b ^^^ c)); exact rfl)) (Lib.hid (by show gmul a c = (gmul a c); exact rfl)) (Lib.hid (by show (gmul a b) ^^^ (gmul a c) = (gmul a (b ^^^ c)); exact (gmul_add_right a b c).symm)) (Lib.hid (by show a ^^^ a = 0; exact (Nat.xor_self a))) (Lib.hid (by show gmul a 1 = a; exact (gmul_one a))) (Lib.hid (by show gmul a 0 = 0; exact (gmul_zero a))) (ginv_lt a ha) (Lib.hid rfl) (Lib.hid (gmul_inv a ha h0))
theorem gfField_walk (a b c : Int) (w : World) (ha : (Lit.int .u8 a).wf = true) (hb : (Lit.int .u8 b).wf = true) (hc : (Lit.int .u8 c).wf = true) :
    Calls Try.prog 4 #[.int .u8 a, .int .u8 b, .int .u8 c] w fun e w' => e = .returned (.bool true) ∧ Below w.heap.size w w' := by
  obtain ⟨a, rfl, ha1⟩ := u8_nat ha
  obtain ⟨b, rfl, hb1⟩ := u8_nat hb
  obtain ⟨c, rfl, hc1⟩ := u8_nat hc
  exact gfField_nat a b c w ha1 hb1 hc1
end Go.Proofs.Ytgojeonpnjjkeaa
