/- Contracts (cellaret): the law GfTurns. -/
import Derived.Test.YtbbanhjcchnhpaaGfC
namespace Go.Proofs.Ytbbanhjcchnhpaa
open Go.RowKit
set_option linter.unusedVariables false

theorem half_t (t : Nat) : (t : Int).tdiv 2 = ((t / 2 : Nat) : Int) := by
  rw [Int.tdiv_eq_ediv_of_nonneg (by exact Int.natCast_nonneg _)]
  omega
theorem pow8 (j : Nat) (h : j ≤ 8) : 2 ^ j ≤ 256 := by
  have := all1 (p := fun j => decide (2 ^ j ≤ 256)) 9 (by decide +kernel) j (by omega)
  exact of_decide_eq_true this
set_option maxRecDepth 100000 in
set_option maxHeartbeats 400000 in
theorem power_raw (k p : Nat) (w : World) (hk : k < 8) (hp : Hid (2 ^ k = p)) :
    Calls Try.prog 75 #[.int .i64 k] w fun e w' => e = .returned (.int .i64 p) ∧ w = w' := by
  go_enter Try.func75, Try.ntmps75
  go_wp2
  go_loop [3, 4] (fun x y => ∃ j t : Nat, x = .int .i64 t ∧ y = .int .i64 j ∧ j ≤ k ∧ t ≤ 256 ∧ Hid (2 ^ j = t))
    (fun _ y => 8 - (intOf y).toNat)
  case atStart => exact ⟨0, 1, rfl, rfl, by omega, by omega, Lib.hid rfl⟩
  case round =>
    obtain ⟨j, t, rfl, rfl, hj, ht, HT⟩ := hrel
    by_cases hlt : j < k
    · go_wp2
      go_round
      case rel => exact ⟨j + 1, 2 * t, by go_num, by go_num, by omega, by have := pow8 (j + 1) (by omega); rw [Nat.pow_succ, HT.out] at this; omega, Lib.hid (by rw [Nat.pow_succ, HT.out, Nat.mul_comm])⟩
      case measure => simp [intOf]; omega
    · have e : j = k := by omega
      subst e
      go_wp2
      go_ret
      exact ⟨ret_i64 (by rw [← hp.out, HT.out]), rfl⟩
theorem power_any (k : Nat) (w : World) (hk : k < 8) :
    Calls Try.prog 75 #[.int .i64 k] w fun e w' => e = .returned (.int .i64 ((2 ^ k : Nat) : Int)) ∧ w = w' := power_raw k _ w hk (Lib.hid rfl)

/-- What the page's turned bits make, up to a place. -/
def turnSum (a k : Nat) : Nat → Nat
  | 0 => 0
  | i + 1 => turnSum a k i + (if a / 2 ^ i % 2 = 1 then 2 ^ ((i + k) % 8) else 0)
theorem turnSum_rot (a k : Nat) (ha : a < 256) (hk : k < 8) : turnSum a k 8 = rotN a k := by
  have := all1 (p := fun a => (List.range 8).all fun k => decide (turnSum a k 8 = rotN a k)) 256 (by decide +kernel) a ha
  exact of_decide_eq_true (all1 8 this k hk)
theorem turnSum_le (a k i : Nat) (hi : i ≤ 8) : turnSum a k i ≤ i * 128 := by
  induction i with
  | zero => exact Nat.le_refl _
  | succ i ih =>
    unfold turnSum
    have h := ih (by omega)
    split
    · have : 2 ^ ((i + k) % 8) ≤ 128 := by
        have h8 : (i + k) % 8 < 8 := Nat.mod_lt _ (by omega)
        have := all1 (p := fun j => decide (2 ^ j ≤ 128)) 8 (by decide +kernel) ((i + k) % 8) h8
        exact of_decide_eq_true this
      omega
    · omega
theorem rot_back (a m : Nat) (ha : a < 256) : rotN (rotN a ((m : Int) % 8).toNat) ((-(m : Int)) % 8).toNat = a := by
  have h1 : ((m : Int) % 8).toNat = m % 8 := by omega
  have h2 : ((-(m : Int)) % 8).toNat = (8 - m % 8) % 8 := by omega
  rw [h1, h2]
  have := all1 (p := fun a => (List.range 8).all fun k => decide (rotN (rotN a k) ((8 - k) % 8) = a)) 256 (by decide +kernel) a ha
  exact of_decide_eq_true (all1 8 this (m % 8) (Nat.mod_lt _ (by omega)))

end Go.Proofs.Ytbbanhjcchnhpaa
