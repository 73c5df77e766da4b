/- Contracts of package gf (cellaret): turns; what must come at any rate. -/
import Derived.Test.YtgojeonpnjjkeaaGfB
namespace Go.Proofs.Ytgojeonpnjjkeaa
open Go.RowKit
set_option linter.unusedVariables false

/-- Bits turned by k places. -/
def rotN (a k : Nat) : Nat := (a * 2 ^ k % 256) ||| (a / 2 ^ (8 - k))
theorem tmod8 (n : Int) : -7 ≤ n.tmod 8 ∧ n.tmod 8 ≤ 7 ∧ (n.tmod 8 + 8) % 8 = n % 8 := by
  have h1 := Int.tmod_eq_emod (a := n) (b := 8)
  have h2 : (8 : Int).natAbs = 8 := rfl
  rw [h1]
  split <;> omega

theorem turn_or (a k : Nat) (ha : a < 256) (x y : Int) (hx : x = ((a * 2 ^ k % 256 : Nat) : Int)) (hy : y = ((a / 2 ^ (8 - k) : Nat) : Int)) : bits BinOp.or .u8 x y = ((rotN a k : Nat) : Int) := by
  subst hx; subst hy
  exact u8_or_nat _ _ (Nat.mod_lt _ (by omega)) (Nat.lt_of_le_of_lt (Nat.div_le_self _ _) ha)
theorem rotN_lt (a k : Nat) (ha : a < 256) : rotN a k < 256 := Nat.or_lt_two_pow (n := 8) (Nat.mod_lt _ (by omega)) (Nat.lt_of_le_of_lt (Nat.div_le_self _ _) ha)

set_option maxRecDepth 100000 in
set_option maxHeartbeats 1000000 in
theorem turn_any (a : Nat) (n : Int) (w : World) (ha : a < 256) :
    Calls Try.prog 20 #[.int .u8 a, .int .i64 n] w fun e w' => e = .returned (.int .u8 (rotN a (n % 8).toNat : Nat)) ∧ Below w.heap.size w w' := by
  obtain ⟨h1, h2, h3⟩ := tmod8 n
  have hk : ∃ k : Nat, k < 8 ∧ n % 8 = (k : Int) := ⟨(n % 8).toNat, by omega, by omega⟩
  obtain ⟨k, hk8, hk⟩ := hk
  rw [hk] at h3 ⊢
  rw [Int.toNat_natCast]
  have HT := Lib.hid (turn_or a k ha)
  have HK := Lib.hid hk
  clear hk
  have hor : k = 0 ∨ k = 1 ∨ k = 2 ∨ k = 3 ∨ k = 4 ∨ k = 5 ∨ k = 6 ∨ k = 7 := by omega
  rcases hor with rfl | rfl | rfl | rfl | rfl | rfl | rfl | rfl
  all_goals
    go_enter Try.func20, Try.ntmps20
    go_wp2
    go_region
    all_goals
      go_wp2
      go_ret
      exact ⟨ret_u8 (HT.out _ _ (by omega) (by omega)), (Below.refl _ _).drew⟩

set_option maxRecDepth 100000 in
set_option maxHeartbeats 400000 in
theorem awake02 (w : World) : Calls Try.prog 8 #[] w fun e w' => e = .returned (.bool true) ∧ Below w.heap.size w w' := by
  have m1 : gmul 87 131 = 193 := by decide +kernel
  have m2 : gmul 87 19 = 254 := by decide +kernel
  have m3 : ginv 83 = 202 := by decide +kernel
  have m4 : rotN 128 1 = 1 := by decide +kernel
  have M1 := Lib.hid (fun w => mul_any 87 131 w (by omega) (by omega))
  rw [m1] at M1
  have M2 := Lib.hid (fun w => mul_any 87 19 w (by omega) (by omega))
  rw [m2] at M2
  have M3 := Lib.hid (fun w => inv_any 83 w (by omega))
  rw [m3] at M3
  have M4 := Lib.hid (fun w => turn_any 128 1 w (by omega))
  rw [show ((1 : Int) % 8).toNat = 1 from rfl, m4] at M4
  clear m1 m2 m3 m4
  go_enter Try.func8, Try.ntmps8
  go_wp2_with fail
  refine (M1.out _).mono ?_
  rintro e w' ⟨rfl, rfl⟩
  go_wp2_with fail
  refine (M2.out _).mono ?_
  rintro e w' ⟨rfl, rfl⟩
  go_wp2_with fail
  refine (M3.out _).mono ?_
  rintro e w1 ⟨rfl, b1⟩
  go_wp2_with fail
  refine (M4.out _).mono ?_
  rintro e w2 ⟨rfl, b2⟩
  go_wp2
  go_ret
  exact ⟨rfl, below_trans b1 b2⟩

set_option maxRecDepth 100000 in
set_option maxHeartbeats 400000 in
theorem gfMuls_nat (a b : Nat) (w : World) (ha : a < 256) (hb : b < 256) :
    Calls Try.prog 3 #[.int .u8 a, .int .u8 b] w fun e w' => e = .returned (.bool true) ∧ Below w.heap.size w w' := by
  have M4 := Lib.hid (fun w => r02mul_any a 2 w ha (by omega))
  rw [gmul_two] at M4
  have T := Lib.hid (fun w => twice_any a w ha)
  have X := Lib.hid (fun w => add_any a b w ha hb)
  have Y := Lib.hid (fun w => r02add_any a b w (by omega) (by omega))
  have M := Lib.hid (fun w => mul_any a b w ha hb)
  have M2 := Lib.hid (fun w => r02mul_any a b w ha hb)
  have hx := xor_lt a b ha hb
  have hg := gmul_lt a b ha
  have ht := tw_lt a ha
  generalize tw a = t at M4 T ht
  generalize gmul a b = g at M M2 hg
  generalize a ^^^ b = x at X Y hx
  go_enter Try.func3, Try.ntmps3
  go_wp2_with fail
  refine (awake02 _).mono ?_
  rintro e w1 ⟨rfl, b1⟩
  go_wp2_with fail
  refine (X.out _).mono ?_
  rintro e w' ⟨rfl, rfl⟩
  go_wp2_with fail
  refine (Y.out _).mono ?_
  rintro e w' ⟨rfl, rfl⟩
  go_wp2_with fail
  refine (M.out _).mono ?_
  rintro e w' ⟨rfl, rfl⟩
  go_wp2_with fail
  refine (M2.out _).mono ?_
  rintro e w' ⟨rfl, rfl⟩
  go_wp2_with fail
  refine (T.out _).mono ?_
  rintro e w' ⟨rfl, rfl⟩
  go_wp2_with fail
  refine (M4.out _).mono ?_
  rintro e w' ⟨rfl, rfl⟩
  go_wp2
  go_ret
  exact ⟨rfl, b1⟩
theorem u8_nat {a : Int} (h : (Lit.int .u8 a).wf = true) : ∃ n : Nat, a = (n : Int) ∧ n < 256 := by
  have := bounds_u8 h
  exact ⟨a.toNat, by omega, by omega⟩
theorem gfMuls_walk (a b : Int) (w : World) (ha : (Lit.int .u8 a).wf = true) (hb : (Lit.int .u8 b).wf = true) :
    Calls Try.prog 3 #[.int .u8 a, .int .u8 b] w fun e w' => e = .returned (.bool true) ∧ Below w.heap.size w w' := by
  obtain ⟨a, rfl, ha'⟩ := u8_nat ha
  obtain ⟨b, rfl, hb'⟩ := u8_nat hb
  exact gfMuls_nat a b w ha' hb'
end Go.Proofs.Ytgojeonpnjjkeaa
