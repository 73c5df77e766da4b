/- Contracts (cellaret): node.Side, node.Below. -/
import Derived.Test.YtaopmiocompibaaDoorNoB
namespace Go.Proofs.YtaopmiocompibaaDoor
open Go.RowKit Go.Deep
set_option linter.unusedVariables false
set_option linter.unusedSimpArgs false
/-- On which side of the node i + 1 levels above it a leaf is. -/
def sdv (leaf i : Nat) : Nat := nd leaf i - 2 * nd leaf (i + 1) - 1
theorem sdv_two (leaf i : Nat) (h : leaf < 64) (hi : i < 6) : sdv leaf i < 2 ∧ nd leaf i = 2 * nd leaf (i + 1) + 1 + sdv leaf i := by
  have := nd_two leaf i h hi
  unfold sdv
  omega
theorem sdv_int (leaf i : Nat) (h : leaf < 64) (hi : i < 6) : (nd leaf i : Int) - 2 * (nd leaf (i + 1) : Int) - 1 = (sdv leaf i : Int) := by
  have := sdv_two leaf i h hi
  omega
theorem path_at (leaf i : Nat) (hi : i < 6) : lget (pathL leaf 6) i = nd leaf (i + 1) := pathL_at leaf 6 i hi
attribute [local irreducible] nd pathL sdv
set_option maxRecDepth 100000 in
set_option maxHeartbeats 1000000 in
theorem below_no (n side : Int) (w : World) (h : n < 0 ∨ 63 ≤ n ∨ (0 ≤ n ∧ n < 63 ∧ side ≠ 0 ∧ side ≠ 1)) : Calls Tryd.prog 11 #[.int .i64 n, .int .i64 side] w fun e w' => e = .returned (.tuple #[.int .i64 0, .bool false, .int .i64 3]) ∧ w = w' := by
  rcases h with h | h | ⟨h1, h2, h3, h4⟩
  · have h' : ¬ 0 ≤ n := by omega
    go_enter Tryd.func11, Tryd.ntmps11
    go_wp2_with (go_in)
    go_ret3
    exact ⟨rfl, rfl⟩
  · have h0 : 0 ≤ n := by omega
    have h' : ¬ n < 63 := by omega
    go_enter Tryd.func11, Tryd.ntmps11
    go_wp2_with (go_in)
    go_ret3
    exact ⟨rfl, rfl⟩
  · have e3 : (side == 0) = false := by simpa using h3
    have e4 : (side == 1) = false := by simpa using h4
    go_enter Tryd.func11, Tryd.ntmps11
    go_wp2_with (go_in)
    go_ret3
    exact ⟨rfl, rfl⟩
set_option maxRecDepth 100000 in
set_option maxHeartbeats 1000000 in
theorem below_node0 (n : Nat) (w : World) (h1 : (n : Int) < 63) (h0 : 0 ≤ (n : Int)) (h2 : 2 * (n : Int) + 1 < 63) (r : Int) (hr : Hid (r = 2 * (n : Int) + 1)) : Calls Tryd.prog 11 #[.int .i64 (n : Int), .int .i64 0] w fun e w' => e = .returned (.tuple #[.int .i64 r, .bool false, .int .i64 0]) ∧ w = w' := by
  go_enter Tryd.func11, Tryd.ntmps11
  go_wp2_with (go_in)
  go_ret3
  exact ⟨by rw [hr.out]; rfl, rfl⟩
set_option maxRecDepth 100000 in
set_option maxHeartbeats 1000000 in
theorem below_node1 (n : Nat) (w : World) (h1 : (n : Int) < 63) (h0 : 0 ≤ (n : Int)) (h2 : 2 * (n : Int) + 1 + 1 < 63) (r : Int) (hr : Hid (r = 2 * (n : Int) + 1 + 1)) : Calls Tryd.prog 11 #[.int .i64 (n : Int), .int .i64 1] w fun e w' => e = .returned (.tuple #[.int .i64 r, .bool false, .int .i64 0]) ∧ w = w' := by
  go_enter Tryd.func11, Tryd.ntmps11
  go_wp2_with (go_in)
  go_ret3
  exact ⟨by rw [hr.out]; rfl, rfl⟩
set_option maxRecDepth 100000 in
set_option maxHeartbeats 1000000 in
theorem below_leaf0 (n : Nat) (w : World) (h1 : (n : Int) < 63) (h0 : 0 ≤ (n : Int)) (h2 : ¬ 2 * (n : Int) + 1 < 63) (r : Int) (hr : Hid (r = 2 * (n : Int) + 1 - 63)) : Calls Tryd.prog 11 #[.int .i64 (n : Int), .int .i64 0] w fun e w' => e = .returned (.tuple #[.int .i64 r, .bool true, .int .i64 0]) ∧ w = w' := by
  go_enter Tryd.func11, Tryd.ntmps11
  go_wp2_with (go_in)
  go_ret3
  exact ⟨by rw [hr.out]; rfl, rfl⟩
set_option maxRecDepth 100000 in
set_option maxHeartbeats 1000000 in
theorem below_leaf1 (n : Nat) (w : World) (h1 : (n : Int) < 63) (h0 : 0 ≤ (n : Int)) (h2 : ¬ 2 * (n : Int) + 1 + 1 < 63) (r : Int) (hr : Hid (r = 2 * (n : Int) + 1 + 1 - 63)) : Calls Tryd.prog 11 #[.int .i64 (n : Int), .int .i64 1] w fun e w' => e = .returned (.tuple #[.int .i64 r, .bool true, .int .i64 0]) ∧ w = w' := by
  go_enter Tryd.func11, Tryd.ntmps11
  go_wp2_with (go_in)
  go_ret3
  exact ⟨by rw [hr.out]; rfl, rfl⟩
theorem below_node (n side : Nat) (w : World) (hn : n < 63) (hs : side < 2) (h : 2 * n + 1 + side < 63) : Calls Tryd.prog 11 #[.int .i64 (n : Int), .int .i64 (side : Int)] w fun e w' => e = .returned (.tuple #[.int .i64 ((2 * n + 1 + side : Nat) : Int), .bool false, .int .i64 0]) ∧ w = w' := by
  rcases (show side = 0 ∨ side = 1 by omega) with rfl | rfl
  · exact below_node0 n w (by omega) (by omega) (by omega) _ (Lib.hid (by omega))
  · exact below_node1 n w (by omega) (by omega) (by omega) _ (Lib.hid (by omega))
theorem below_leaf (n side : Nat) (w : World) (hn : n < 63) (hs : side < 2) (h : 63 ≤ 2 * n + 1 + side) : Calls Tryd.prog 11 #[.int .i64 (n : Int), .int .i64 (side : Int)] w fun e w' => e = .returned (.tuple #[.int .i64 ((2 * n + 1 + side - 63 : Nat) : Int), .bool true, .int .i64 0]) ∧ w = w' := by
  rcases (show side = 0 ∨ side = 1 by omega) with rfl | rfl
  · exact below_leaf0 n w (by omega) (by omega) (by omega) _ (Lib.hid (by omega))
  · exact below_leaf1 n w (by omega) (by omega) (by omega) _ (Lib.hid (by omega))
set_option maxRecDepth 100000 in
set_option maxHeartbeats 1000000 in
theorem side_out (leaf n : Int) (w : World) (h : leaf < 0 ∨ 63 < leaf) : Calls Tryd.prog 10 #[.int .i64 leaf, .int .i64 n] w fun e w' => e = .returned (.tuple #[.int .i64 0, .int .i64 3]) ∧ w = w' := by
  have HP := Lib.hid (path_no leaf w h)
  clear h
  go_enter Tryd.func10, Tryd.ntmps10
  go_wp2_with fail
  refine HP.out.mono ?_
  rintro e w1 ⟨rfl, rfl⟩
  go_wp2_with fail
  go_ret2
  exact ⟨rfl, rfl⟩
set_option maxRecDepth 100000 in
set_option maxHeartbeats 1000000 in
theorem side_hit (leaf i : Nat) (w : World) (h : leaf < 64) (hi : i < 6) : Calls Tryd.prog 10 #[.int .i64 (leaf : Int), .int .i64 (nd leaf (i + 1) : Int)] w fun e w' => e = .returned (.tuple #[.int .i64 (sdv leaf i : Int), .int .i64 0]) ∧ Below w.heap.size w w' := by
  have HP := Lib.hid (path_yes leaf w h)
  have HN0 : Hid (((nd leaf 0 : Nat) : Int) = 63 + (leaf : Int)) := Lib.hid (by rw [nd_zero]; push_cast; rfl)
  have HS := Lib.hid (sdv_int leaf i h hi)
  have HNE := Lib.hid (fun j (hj : j < i) => nd_ne leaf j i h (by omega) hi (by omega))
  have hN := nd_le leaf (i + 1) h (by omega)
  have HEQ : Hid (∀ j, j = i → nd leaf (j + 1) = nd leaf (i + 1)) := Lib.hid (fun j e => by rw [e])
  generalize nd leaf (i + 1) = N at *
  go_enter Tryd.func10, Tryd.ntmps10
  go_wp2_with fail
  refine HP.out.mono ?_
  rintro e w1 ⟨v, rfl, HO, B1⟩
  obtain ⟨g, c, rfl, hgc, hgb, hgl, hr⟩ := own_rowI HO (by omega)
  have HA : Hid (NAt w1 g (pathL leaf 6)) := Lib.hid ⟨hr, hgl⟩
  clear HO hr HP
  go_wp2_with fail
  go_loop [8, 23] (fun x y => ∃ k : Nat, x = .int .i64 (nd leaf k : Int) ∧ y = .int .i64 (k : Int) ∧ k ≤ i) (fun _ y => 6 - (intOf y).toNat)
  case atStart => exact ⟨0, by rw [HN0.out], rfl, by omega⟩
  case round =>
    obtain ⟨k, rfl, rfl, hk⟩ := hrel
    have hk6 : (k : Int) < 6 := by omega
    have c0 := HA.out.cell k (by rw [pathL_len]; omega)
    rw [path_at leaf k (by omega)] at c0
    have hkl := nd_le leaf k h (by omega)
    by_cases hlt : k < i
    · have hne : ((nd leaf (k + 1) : Int) == (N : Int)) = false := by have := HNE.out k hlt; rw [beq_eq_false_iff_ne]; omega
      go_wp2_with fail
      go_round
      case rel => exact ⟨k + 1, rfl, by go_num, by omega⟩
      case measure => simp [intOf]; omega
    · obtain rfl : k = i := by omega
      rw [HEQ.out k rfl] at c0
      go_wp2_with fail
      go_ret2
      exact ⟨by first | done | rfl | (rw [HS.out]; rfl) | (rw [← HS.out]; rfl) | simp | (trace_state; fail), B1⟩
set_option maxRecDepth 100000 in
set_option maxHeartbeats 1000000 in
theorem side_miss (leaf : Nat) (n : Int) (w : World) (h : leaf < 64) (hn : ∀ j, j < 6 → (nd leaf (j + 1) : Int) ≠ n) : Calls Tryd.prog 10 #[.int .i64 (leaf : Int), .int .i64 n] w fun e w' => e = .returned (.tuple #[.int .i64 0, .int .i64 3]) ∧ Below w.heap.size w w' := by
  have HP := Lib.hid (path_yes leaf w h)
  have HN0 : Hid (((nd leaf 0 : Nat) : Int) = 63 + (leaf : Int)) := Lib.hid (by rw [nd_zero]; push_cast; rfl)
  have HNE := Lib.hid hn
  clear hn
  go_enter Tryd.func10, Tryd.ntmps10
  go_wp2_with fail
  refine HP.out.mono ?_
  rintro e w1 ⟨v, rfl, HO, B1⟩
  obtain ⟨g, c, rfl, hgc, hgb, hgl, hr⟩ := own_rowI HO (by omega)
  have HA : Hid (NAt w1 g (pathL leaf 6)) := Lib.hid ⟨hr, hgl⟩
  clear HO hr HP
  go_wp2_with fail
  go_loop [8, 23] (fun x y => ∃ k : Nat, x = .int .i64 (nd leaf k : Int) ∧ y = .int .i64 (k : Int) ∧ k ≤ 6) (fun _ y => 6 - (intOf y).toNat)
  case atStart => exact ⟨0, by rw [HN0.out], rfl, by omega⟩
  case round =>
    obtain ⟨k, rfl, rfl, hk⟩ := hrel
    by_cases hlt : k < 6
    · have hk6 : (k : Int) < 6 := by omega
      have c0 := HA.out.cell k (by rw [pathL_len]; omega)
      rw [path_at leaf k (by omega)] at c0
      have hne : ((nd leaf (k + 1) : Int) == n) = false := by have := HNE.out k hlt; rw [beq_eq_false_iff_ne]; omega
      go_wp2_with fail
      go_round
      case rel => exact ⟨k + 1, rfl, by go_num, by omega⟩
      case measure => simp [intOf]; omega
    · obtain rfl : k = 6 := by omega
      rw [show ((6 : Nat) : Int) = 6 from rfl]
      go_wp2_with fail
      go_ret2
      exact ⟨rfl, B1⟩
end Go.Proofs.YtaopmiocompibaaDoor
