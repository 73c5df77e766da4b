/- Contracts (cellaret): the law GfTurns. -/
import Derived.Test.YtgojeonpnjjkeaaGfC
namespace Go.Proofs.Ytgojeonpnjjkeaa
open Go.RowKit
set_option linter.unusedVariables false

theorem half_t (t : Nat) : (t : Int).tdiv 2 = ((t / 2 : Nat) : Int) := by
  rw [Int.tdiv_eq_ediv_of_nonneg (by exact Int.natCast_nonneg _)]
  omega
set_option maxRecDepth 100000 in
set_option maxHeartbeats 400000 in
theorem bit_raw (a k r : Nat) (w : World) (ha : a < 256) (hk : k < 8) (hr : Hid (a / 2 ^ k % 2 = r)) :
    Calls Try.prog 18 #[.int .i64 a, .int .i64 k] w fun e w' => e = .returned (.int .i64 r) ∧ w = w' := by
  go_enter Try.func18, Try.ntmps18
  go_wp2
  go_loop [0, 5] (fun x y => ∃ j t : Nat, x = .int .i64 t ∧ y = .int .i64 j ∧ j ≤ k ∧ t < 256 ∧ Hid (a / 2 ^ j = t))
    (fun _ y => 8 - (intOf y).toNat)
  case atStart => exact ⟨0, a, rfl, rfl, by omega, ha, Lib.hid (by simp)⟩
  case round =>
    obtain ⟨j, t, rfl, rfl, hj, ht, HT⟩ := hrel
    by_cases hlt : j < k
    · have h2 := half_t t
      go_wp2
      go_round
      case rel => exact ⟨j + 1, t / 2, by go_num, by go_num, by omega, by omega, Lib.hid (by rw [Nat.pow_succ, ← Nat.div_div_eq_div_mul, HT.out])⟩
      case measure => simp [intOf]; omega
    · have e : j = k := by omega
      subst e
      have e2 : t % 2 = r := by rw [← hr.out, HT.out]
      go_wp2
      go_ret
      exact ⟨ret_i64 (by omega), rfl⟩
theorem bit_any (a k : Nat) (w : World) (ha : a < 256) (hk : k < 8) :
    Calls Try.prog 18 #[.int .i64 a, .int .i64 k] w fun e w' => e = .returned (.int .i64 ((a / 2 ^ k % 2 : Nat) : Int)) ∧ w = w' := bit_raw a k _ w ha hk (Lib.hid rfl)
theorem pow8 (j : Nat) (h : j ≤ 8) : 2 ^ j ≤ 256 := by
  have := all1 (p := fun j => decide (2 ^ j ≤ 256)) 9 (by decide +kernel) j (by omega)
  exact of_decide_eq_true this
set_option maxRecDepth 100000 in
set_option maxHeartbeats 400000 in
theorem power_raw (k p : Nat) (w : World) (hk : k < 8) (hp : Hid (2 ^ k = p)) :
    Calls Try.prog 19 #[.int .i64 k] w fun e w' => e = .returned (.int .i64 p) ∧ w = w' := by
  go_enter Try.func19, Try.ntmps19
  go_wp2
  go_loop [3, 4] (fun x y => ∃ j t : Nat, x = .int .i64 t ∧ y = .int .i64 j ∧ j ≤ k ∧ t ≤ 256 ∧ Hid (2 ^ j = t))
    (fun _ y => 8 - (intOf y).toNat)
  case atStart => exact ⟨0, 1, rfl, rfl, by omega, by omega, Lib.hid rfl⟩
  case round =>
    obtain ⟨j, t, rfl, rfl, hj, ht, HT⟩ := hrel
    by_cases hlt : j < k
    · go_wp2
      go_round
      case rel => exact ⟨j + 1, 2 * t, by go_num, by go_num, by omega, by have := pow8 (j + 1) (by omega); rw [Nat.pow_succ, HT.out] at this; omega, Lib.hid (by rw [Nat.pow_succ, HT.out, Nat.mul_comm])⟩
      case measure => simp [intOf]; omega
    · have e : j = k := by omega
      subst e
      go_wp2
      go_ret
      exact ⟨ret_i64 (by rw [← hp.out, HT.out]), rfl⟩
theorem power_any (k : Nat) (w : World) (hk : k < 8) :
    Calls Try.prog 19 #[.int .i64 k] w fun e w' => e = .returned (.int .i64 ((2 ^ k : Nat) : Int)) ∧ w = w' := power_raw k _ w hk (Lib.hid rfl)

/-- What the page's turned bits make, up to a place. -/
def turnSum (a k : Nat) : Nat → Nat
  | 0 => 0
  | i + 1 => turnSum a k i + (if a / 2 ^ i % 2 = 1 then 2 ^ ((i + k) % 8) else 0)
theorem turnSum_rot (a k : Nat) (ha : a < 256) (hk : k < 8) : turnSum a k 8 = rotN a k := by
  have := all1 (p := fun a => (List.range 8).all fun k => decide (turnSum a k 8 = rotN a k)) 256 (by decide +kernel) a ha
  exact of_decide_eq_true (all1 8 this k hk)
theorem turnSum_le (a k i : Nat) (hi : i ≤ 8) : turnSum a k i ≤ i * 128 := by
  induction i with
  | zero => exact Nat.le_refl _
  | succ i ih =>
    unfold turnSum
    have h := ih (by omega)
    split
    · have : 2 ^ ((i + k) % 8) ≤ 128 := by
        have h8 : (i + k) % 8 < 8 := Nat.mod_lt _ (by omega)
        have := all1 (p := fun j => decide (2 ^ j ≤ 128)) 8 (by decide +kernel) ((i + k) % 8) h8
        exact of_decide_eq_true this
      omega
    · omega
theorem rot_back (a m : Nat) (ha : a < 256) : rotN (rotN a ((m : Int) % 8).toNat) ((-(m : Int)) % 8).toNat = a := by
  have h1 : ((m : Int) % 8).toNat = m % 8 := by omega
  have h2 : ((-(m : Int)) % 8).toNat = (8 - m % 8) % 8 := by omega
  rw [h1, h2]
  have := all1 (p := fun a => (List.range 8).all fun k => decide (rotN (rotN a k) ((8 - k) % 8) = a)) 256 (by decide +kernel) a ha
  exact of_decide_eq_true (all1 8 this (m % 8) (Nat.mod_lt _ (by omega)))

set_option maxRecDepth 100000 in
set_option maxHeartbeats 2000000 in
theorem gfTurns_end (a r : Nat) (n : Int) (k : Nat) (w : World) (m : Nat) (ha : a < 256) (hm : m < 256) (hk : k < 8) (hn : -9223372036854775808 ≤ n ∧ n ≤ 9223372036854775807) (ht : n.tmod 8 = (k : Int) ∨ (n.tmod 8 < 0 ∧ n.tmod 8 + 8 = (k : Int))) (hr : Hid (turnSum a k 8 = r)) (hr' : r < 256) (u : Nat) (hu : u < 256)
    (T1 : Hid (∀ w, Calls Try.prog 20 #[.int .u8 a, .int .i64 n] w fun e w' => e = .returned (.int .u8 r) ∧ Below w.heap.size w w'))
    (T2 : Hid (∀ w, Calls Try.prog 20 #[.int .u8 a, .int .i64 m] w fun e w' => e = .returned (.int .u8 u) ∧ Below w.heap.size w w'))
    (T3 : Hid (∀ w, Calls Try.prog 20 #[.int .u8 u, .int .i64 (-(m : Int))] w fun e w' => e = .returned (.int .u8 a) ∧ Below w.heap.size w w')) :
    Calls Try.prog 6 #[.int .u8 a, .int .i64 n, .int .u8 m] w fun e w' => e = .returned (.bool true) ∧ Below w.heap.size w w' := by
  rcases ht with ht | ⟨hneg, ht⟩
  all_goals
    go_enter Try.func6, Try.ntmps6
    go_wp2
    go_loop [9, 10] (fun x y => ∃ i s : Nat, x = .int .i64 s ∧ y = .int .i64 i ∧ i ≤ 8 ∧ s ≤ 1024 ∧ Hid (turnSum a k i = s))
      (fun _ y => 8 - (intOf y).toNat)
    case atStart => exact ⟨0, 0, rfl, rfl, by omega, by omega, Lib.hid rfl⟩
    case round =>
      obtain ⟨i, s, rfl, rfl, hi, hs, HS⟩ := hrel
      by_cases hlt : i < 8
      · have hle := turnSum_le a k (i + 1) (by omega)
        by_cases hb : a / 2 ^ i % 2 = 1
        · have HB := Lib.hid (fun w => bit_any a i w ha hlt)
          rw [hb] at HB
          have hq : ((i : Int) + (k : Int)).tmod 8 = (((i + k) % 8 : Nat) : Int) := by rw [Int.tmod_eq_emod_of_nonneg (by omega)]; omega
          have hp8 := pow8 ((i + k) % 8) (by omega)
          have HN : Hid (turnSum a k (i + 1) = s + 2 ^ ((i + k) % 8)) := Lib.hid (by unfold turnSum; rw [if_pos hb, HS.out])
          rw [HN.out] at hle
          have HP := Lib.hid (fun w => power_any ((i + k) % 8) w (Nat.mod_lt _ (by omega)))
          generalize 2 ^ ((i + k) % 8) = p at HN HP hle hp8
          clear hb
          go_wp2_with fail
          refine (HB.out _).mono ?_
          rintro e w' ⟨rfl, rfl⟩
          go_wp2_with fail
          refine (HP.out _).mono ?_
          rintro e w' ⟨rfl, rfl⟩
          go_wp2
          go_round
          case rel => exact ⟨i + 1, s + p, by go_num, by go_num, by omega, by omega, HN⟩
          case measure => simp [intOf]; omega
        · have h0 : a / 2 ^ i % 2 = 0 := by omega
          have HB := Lib.hid (fun w => bit_any a i w ha hlt)
          rw [h0] at HB
          have HN : Hid (turnSum a k (i + 1) = s) := Lib.hid (by unfold turnSum; rw [if_neg hb, HS.out]; rfl)
          clear hb h0
          go_wp2_with fail
          refine (HB.out _).mono ?_
          rintro e w' ⟨rfl, rfl⟩
          go_wp2
          go_round
          case rel => exact ⟨i + 1, s, rfl, by go_num, by omega, by omega, HN⟩
          case measure => simp [intOf]; omega
      · have e8 : i = 8 := by omega
        subst e8
        have e2 : s = r := HS.out.symm.trans hr.out
        subst e2
        go_wp2_with fail
        refine (awake02 _).mono ?_
        rintro e w1 ⟨rfl, b1⟩
        go_wp2_with fail
        refine (T1.out _).mono ?_
        rintro e w2 ⟨rfl, b2⟩
        go_wp2_with fail
        refine (T2.out _).mono ?_
        rintro e w3 ⟨rfl, b3⟩
        go_wp2_with fail
        refine (T3.out _).mono ?_
        rintro e w4 ⟨rfl, b4⟩
        go_wp2
        go_ret
        exact ⟨rfl, below_trans b1 (below_trans b2 (below_trans b3 b4))⟩
theorem gfTurns_walk (a n m : Int) (w : World) (ha : (Lit.int .u8 a).wf = true) (hn : (Lit.int .i64 n).wf = true) (hm : (Lit.int .u8 m).wf = true) :
    Calls Try.prog 6 #[.int .u8 a, .int .i64 n, .int .u8 m] w fun e w' => e = .returned (.bool true) ∧ Below w.heap.size w w' := by
  obtain ⟨a, rfl, ha'⟩ := u8_nat ha
  obtain ⟨m, rfl, hm'⟩ := u8_nat hm
  have hn' := bounds_i64 hn
  obtain ⟨h1, h2, h3⟩ := tmod8 n
  have hk8 : (n % 8).toNat < 8 := by omega
  have hb := rot_back a m ha'
  refine gfTurns_end a (rotN a (n % 8).toNat) n (n % 8).toNat w m ha' hm' hk8 hn' (by omega) (Lib.hid (turnSum_rot _ _ ha' hk8)) (rotN_lt _ _ ha') (rotN a ((m : Int) % 8).toNat) (rotN_lt _ _ ha')
    (Lib.hid fun w => turn_any a n w ha') (Lib.hid fun w => turn_any a m w ha') (Lib.hid fun w => ?_)
  have := turn_any (rotN a ((m : Int) % 8).toNat) (-(m : Int)) w (rotN_lt _ _ ha')
  rwa [hb] at this
end Go.Proofs.Ytgojeonpnjjkeaa
