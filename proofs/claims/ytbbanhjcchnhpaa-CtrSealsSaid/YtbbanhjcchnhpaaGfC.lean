/- Contracts of package gf (cellaret): turns; what must come at any rate. -/
import Derived.Test.YtbbanhjcchnhpaaGfB
namespace Go.Proofs.Ytbbanhjcchnhpaa
open Go.RowKit
set_option linter.unusedVariables false

/-- Bits turned by k places. -/
def rotN (a k : Nat) : Nat := (a * 2 ^ k % 256) ||| (a / 2 ^ (8 - k))
theorem tmod8 (n : Int) : -7 ≤ n.tmod 8 ∧ n.tmod 8 ≤ 7 ∧ (n.tmod 8 + 8) % 8 = n % 8 := by
  have h1 := Int.tmod_eq_emod (a := n) (b := 8)
  have h2 : (8 : Int).natAbs = 8 := rfl
  rw [h1]
  split <;> omega

theorem turn_or (a k : Nat) (ha : a < 256) (x y : Int) (hx : x = ((a * 2 ^ k % 256 : Nat) : Int)) (hy : y = ((a / 2 ^ (8 - k) : Nat) : Int)) : bits BinOp.or .u8 x y = ((rotN a k : Nat) : Int) := by
  subst hx; subst hy
  exact u8_or_nat _ _ (Nat.mod_lt _ (by omega)) (Nat.lt_of_le_of_lt (Nat.div_le_self _ _) ha)
theorem rotN_lt (a k : Nat) (ha : a < 256) : rotN a k < 256 := Nat.or_lt_two_pow (n := 8) (Nat.mod_lt _ (by omega)) (Nat.lt_of_le_of_lt (Nat.div_le_self _ _) ha)

set_option maxRecDepth 100000 in
set_option maxHeartbeats 1000000 in
theorem turn_any (a : Nat) (n : Int) (w : World) (ha : a < 256) :
    Calls Try.prog 45 #[.int .u8 a, .int .i64 n] w fun e w' => e = .returned (.int .u8 (rotN a (n % 8).toNat : Nat)) ∧ Below w.heap.size w w' := by
  obtain ⟨h1, h2, h3⟩ := tmod8 n
  have hk : ∃ k : Nat, k < 8 ∧ n % 8 = (k : Int) := ⟨(n % 8).toNat, by omega, by omega⟩
  obtain ⟨k, hk8, hk⟩ := hk
  rw [hk] at h3 ⊢
  rw [Int.toNat_natCast]
  have HT := Lib.hid (turn_or a k ha)
  have HK := Lib.hid hk
  clear hk
  have hor : k = 0 ∨ k = 1 ∨ k = 2 ∨ k = 3 ∨ k = 4 ∨ k = 5 ∨ k = 6 ∨ k = 7 := by omega
  rcases hor with rfl | rfl | rfl | rfl | rfl | rfl | rfl | rfl
  all_goals
    go_enter Try.func45, Try.ntmps45
    go_wp2
    go_region
    all_goals
      go_wp2
      go_ret
      exact ⟨ret_u8 (HT.out _ _ (by omega) (by omega)), (Below.refl _ _).drew⟩

theorem u8_nat {a : Int} (h : (Lit.int .u8 a).wf = true) : ∃ n : Nat, a = (n : Int) ∧ n < 256 := by
  have := bounds_u8 h
  exact ⟨a.toNat, by omega, by omega⟩
end Go.Proofs.Ytbbanhjcchnhpaa
