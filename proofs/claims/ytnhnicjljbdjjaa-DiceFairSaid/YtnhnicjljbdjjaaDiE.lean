/- Contracts (cellaret): the law DiceApart. -/
import Derived.Test.YtnhnicjljbdjjaaDiD
namespace Go.Proofs.Ytnhnicjljbdjjaa
open Go.RowKit Go.Deep
set_option linter.unusedVariables false

def fact : Nat → Nat
  | 0 => 1
  | n + 1 => fact n * (n + 1)
/-- The draw that an order tells. -/
def dec : List Int → List Int → Nat
  | _, [] => 0
  | zs, z :: r => zs.findIdx (· == z) + zs.length * dec (zs.eraseIdx (zs.findIdx (· == z))) r
theorem order_dec (k x : Nat) (hk : k < 7) (hx : x < fact k) : dec ((List.range k).map Int.ofNat) (orderL x k) = x := by
  have h : ((List.range 7).all fun k => (List.range (fact k)).all fun x => dec ((List.range k).map Int.ofNat) (orderL x k) == x) = true := by decide +kernel
  rw [List.all_eq_true] at h
  have h1 := h k (List.mem_range.2 hk)
  rw [List.all_eq_true] at h1
  have h2 := h1 x (List.mem_range.2 hx)
  simpa using h2
theorem order_apart (k x y : Nat) (hk : k < 7) (hx : x < fact k) (hy : y < fact k) : decide (orderL x k = orderL y k) = decide (x = y) := by
  rw [decide_eq_decide]
  refine ⟨fun h => ?_, fun h => by rw [h]⟩
  rw [← order_dec k x hk hx, h, order_dec k y hk hy]
theorem orderGo_length (s left : Nat) (zs out : List Int) : (orderGo s left zs out).length = s + out.length := by
  induction s generalizing left zs out with
  | zero => simp [orderGo]
  | succ s ih => unfold orderGo; rw [ih]; simp; omega
theorem orderL_length (x k : Nat) : (orderL x k).length = k := by unfold orderL; rw [orderGo_length]; simp
theorem fact_pos (k : Nat) : 1 ≤ fact k := by
  induction k with
  | zero => exact Nat.le_refl _
  | succ k ih => unfold fact; exact Nat.mul_pos ih (by omega)
theorem fact_le (k : Nat) (hk : k < 7) : fact k ≤ 720 := by
  have : k = 0 ∨ k = 1 ∨ k = 2 ∨ k = 3 ∨ k = 4 ∨ k = 5 ∨ k = 6 := by omega
  rcases this with rfl | rfl | rfl | rfl | rfl | rfl | rfl <;> decide

set_option maxRecDepth 100000 in
set_option maxHeartbeats 2000000 in
theorem diceApart_nat (a b n k F x y : Nat) (r : Bool) (zs ys : List Int) (w : World) (ha : a < 65536) (hb : b < 65536) (hn : n < 256) (hk : k < 7) (hnk : Hid (n % 7 = k)) (hF : Hid (fact k = F)) (hF1 : 1 ≤ F) (hF2 : F ≤ 720)
    (hx : Hid (a % F = x)) (hy : Hid (b % F = y)) (hzl : zs.length = k) (hyl : ys.length = k)
    (HO1 : Hid (∀ w, Calls Try.prog 11 #[.int .i64 x, .int .i64 k] w fun e w' => (∃ v, e = .returned (.tuple #[v, .int .i64 0]) ∧ w'.ownsRow w.heap.size 3 1 v zs.length (zs.map (Value.int .i64))) ∧ Below w.heap.size w w'))
    (HO2 : Hid (∀ w, Calls Try.prog 11 #[.int .i64 y, .int .i64 k] w fun e w' => (∃ v, e = .returned (.tuple #[v, .int .i64 0]) ∧ w'.ownsRow w.heap.size 3 1 v ys.length (ys.map (Value.int .i64))) ∧ Below w.heap.size w w'))
    (hr : Hid (decide (zs = ys) = r)) (hr2 : ((x : Int) == (y : Int)) = r) :
    Calls Try.prog 6 #[.int .u16 a, .int .u16 b, .int .u8 n] w fun e w' => e = .returned (.bool true) ∧ Below w.heap.size w w' := by
  have t1 : (n : Int).tmod 7 = (k : Int) := by rw [Int.tmod_eq_emod_of_nonneg (by omega)]; have := hnk.out; omega
  have t2 := (divs a F).2
  rw [hx.out] at t2
  have t3 := (divs b F).2
  rw [hy.out] at t3
  have hFne : ((F : Int) == 0) = false := by rw [beq_eq_false_iff_ne]; omega
  have hx2 : x < 720 := by rw [← hx.out]; have := Nat.mod_lt a hF1; omega
  have hy2 : y < 720 := by rw [← hy.out]; have := Nat.mod_lt b hF1; omega
  go_enter Try.func6, Try.ntmps6
  go_wp2
  go_loop [8, 9] (fun u v => ∃ i p : Nat, u = .int .i64 p ∧ v = .int .i64 i ∧ 2 ≤ i ∧ (i ≤ k + 1 ∨ i = 2) ∧ p ≤ 720 ∧ Hid (fact (i - 1) = p))
    (fun _ v => k + 2 - (intOf v).toNat)
  case atStart => exact ⟨2, 1, rfl, rfl, by omega, .inr rfl, by omega, Lib.hid rfl⟩
  case round =>
    obtain ⟨i, p, rfl, rfl, hi, hik, hp, HP⟩ := hrel
    by_cases hlt : i ≤ k
    · have hN : fact i = p * i := by
        obtain ⟨j, rfl⟩ : ∃ j, i = j + 1 := ⟨i - 1, by omega⟩
        have := HP.out
        rw [Nat.add_sub_cancel] at this
        unfold fact
        rw [this]
      have hle := fact_le i (by omega)
      rw [hN] at hle
      have hcast : (p : Int) * (i : Int) = ((p * i : Nat) : Int) := by rw [Int.natCast_mul]
      have HN := Lib.hid hN
      generalize p * i = m at hcast HN hle
      clear hN
      go_wp2
      go_round
      case rel => exact ⟨i + 1, m, by go_num, by go_num, by omega, by omega, hle, HN⟩
      case measure => simp [intOf]; omega
    · have e : p = F := by
        rw [← HP.out, ← hF.out]
        by_cases h2 : i = k + 1
        · rw [h2]; rfl
        · have : i = 2 := by omega
          subst this
          have : k = 0 ∨ k = 1 := by omega
          rcases this with rfl | rfl <;> rfl
      subst e
      clear HP
      go_wp2
      go_quiet (fail)
      go_wp2_with fail
      refine (HO1.out _).mono ?_
      rintro e w1 ⟨⟨v1, rfl, hv1⟩, b1⟩
      obtain ⟨ao, m1, c1, rfl⟩ := own_slice hv1
      obtain ⟨hm1, hat1⟩ := IntsAt.own hv1
      rw [hzl] at hm1
      subst hm1
      clear hv1
      have B1 := (below_drewN (Below.refl w.heap.size w) _).trans (b1.mono (by exact Nat.le_refl _))
      go_wp2_with fail
      refine (HO2.out _).mono ?_
      rintro e w2 ⟨⟨v2, rfl, hv2⟩, b2⟩
      obtain ⟨bo, m2, c2, rfl⟩ := own_slice hv2
      obtain ⟨hm2, hat2⟩ := IntsAt.own hv2
      rw [hyl] at hm2
      subst hm2
      clear hv2
      have B2 := B1.trans (b2.mono B1.size)
      have hat1' := hat1.below b2
      go_wp2_with fail
      refine (awake08 _).mono ?_
      rintro e w3 ⟨rfl, b3⟩
      have B3 := B2.trans (b3.mono B2.size)
      have HI := Lib.hid (ints_raw ao bo _ _ c1 c2 zs ys _ hzl hyl (hat1'.below b3) (hat2.below b3) (by unfold maxLen; omega) r hr)
      clear hat1 hat2 hat1'
      go_wp2_with fail
      refine (HI.out).mono ?_
      rintro e w4 ⟨rfl, b4⟩
      have B4 := B3.trans (b4.mono B3.size)
      go_wp2
      go_ret
      exact ⟨rfl, B4⟩
theorem u16_nat {a : Int} (h : (Lit.int .u16 a).wf = true) : ∃ n : Nat, a = (n : Int) ∧ n < 65536 := by
  have := bounds_u16 h
  exact ⟨a.toNat, by omega, by omega⟩
theorem u8_nat {a : Int} (h : (Lit.int .u8 a).wf = true) : ∃ n : Nat, a = (n : Int) ∧ n < 256 := by
  have := bounds_u8 h
  exact ⟨a.toNat, by omega, by omega⟩
theorem diceApart_walk (a b n : Int) (w : World) (w1 : (Lit.int .u16 a).wf = true) (w2 : (Lit.int .u16 b).wf = true) (w3 : (Lit.int .u8 n).wf = true) :
    Calls Try.prog 6 #[.int .u16 a, .int .u16 b, .int .u8 n] w fun e w' => e = .returned (.bool true) ∧ Below w.heap.size w w' := by
  obtain ⟨a, rfl, ha⟩ := u16_nat w1
  obtain ⟨b, rfl, hb⟩ := u16_nat w2
  obtain ⟨n, rfl, hn⟩ := u8_nat w3
  have hk : n % 7 < 7 := Nat.mod_lt _ (by omega)
  have hF := fact_pos (n % 7)
  have hx : a % fact (n % 7) < fact (n % 7) := Nat.mod_lt _ hF
  have hy : b % fact (n % 7) < fact (n % 7) := Nat.mod_lt _ hF
  have hF2 := fact_le _ hk
  refine diceApart_nat a b n (n % 7) (fact (n % 7)) _ _ (decide (a % fact (n % 7) = b % fact (n % 7))) (orderL (a % fact (n % 7)) (n % 7)) (orderL (b % fact (n % 7)) (n % 7)) w ha hb hn hk (Lib.hid rfl) (Lib.hid rfl) hF hF2 (Lib.hid rfl) (Lib.hid rfl) (orderL_length _ _) (orderL_length _ _)
    (Lib.hid fun w => order_any _ _ _ w (by omega) (by omega) (Lib.hid rfl)) (Lib.hid fun w => order_any _ _ _ w (by omega) (by omega) (Lib.hid rfl)) (Lib.hid (order_apart _ _ _ hk hx hy)) ?_
  rw [Bool.eq_iff_iff, beq_iff_eq, decide_eq_true_iff]
  omega
end Go.Proofs.Ytnhnicjljbdjjaa
