/- Contracts (cellaret): node.Side, node.Below. -/
import Derived.Test.YtaneecmfgfkaaaaDoorNoB
namespace Go.Proofs.YtaneecmfgfkaaaaDoor
open Go.RowKit Go.Deep
set_option linter.unusedVariables false
set_option linter.unusedSimpArgs false
/-- On which side of the node i + 1 levels above it a leaf is. -/
def sdv (leaf i : Nat) : Nat := nd leaf i - 2 * nd leaf (i + 1) - 1
theorem sdv_two (leaf i : Nat) (h : leaf < 64) (hi : i < 6) : sdv leaf i < 2 ∧ nd leaf i = 2 * nd leaf (i + 1) + 1 + sdv leaf i := by
  have := nd_two leaf i h hi
  unfold sdv
  omega
theorem sdv_int (leaf i : Nat) (h : leaf < 64) (hi : i < 6) : (nd leaf i : Int) - 2 * (nd leaf (i + 1) : Int) - 1 = (sdv leaf i : Int) := by
  have := sdv_two leaf i h hi
  omega
theorem path_at (leaf i : Nat) (hi : i < 6) : lget (pathL leaf 6) i = nd leaf (i + 1) := pathL_at leaf 6 i hi
attribute [local irreducible] nd pathL sdv
set_option maxRecDepth 100000 in
set_option maxHeartbeats 1000000 in
theorem side_out (leaf n : Int) (w : World) (h : leaf < 0 ∨ 63 < leaf) : Calls Tryd.prog 43 #[.int .i64 leaf, .int .i64 n] w fun e w' => e = .returned (.tuple #[.int .i64 0, .int .i64 3]) ∧ w = w' := by
  have HP := Lib.hid (path_no leaf w h)
  clear h
  go_enter Tryd.func43, Tryd.ntmps43
  go_wp2_with fail
  refine HP.out.mono ?_
  rintro e w1 ⟨rfl, rfl⟩
  go_wp2_with fail
  go_ret2
  exact ⟨rfl, rfl⟩
set_option maxRecDepth 100000 in
set_option maxHeartbeats 1000000 in
theorem side_hit (leaf i : Nat) (w : World) (h : leaf < 64) (hi : i < 6) : Calls Tryd.prog 43 #[.int .i64 (leaf : Int), .int .i64 (nd leaf (i + 1) : Int)] w fun e w' => e = .returned (.tuple #[.int .i64 (sdv leaf i : Int), .int .i64 0]) ∧ Below w.heap.size w w' := by
  have HP := Lib.hid (path_yes leaf w h)
  have HN0 : Hid (((nd leaf 0 : Nat) : Int) = 63 + (leaf : Int)) := Lib.hid (by rw [nd_zero]; push_cast; rfl)
  have HS := Lib.hid (sdv_int leaf i h hi)
  have HNE := Lib.hid (fun j (hj : j < i) => nd_ne leaf j i h (by omega) hi (by omega))
  have hN := nd_le leaf (i + 1) h (by omega)
  have HEQ : Hid (∀ j, j = i → nd leaf (j + 1) = nd leaf (i + 1)) := Lib.hid (fun j e => by rw [e])
  generalize nd leaf (i + 1) = N at *
  go_enter Tryd.func43, Tryd.ntmps43
  go_wp2_with fail
  refine HP.out.mono ?_
  rintro e w1 ⟨v, rfl, HO, B1⟩
  obtain ⟨g, c, rfl, hgc, hgb, hgl, hr⟩ := own_rowI HO (by omega)
  have HA : Hid (NAt w1 g (pathL leaf 6)) := Lib.hid ⟨hr, hgl⟩
  clear HO hr HP
  go_wp2_with fail
  go_loop [8, 23] (fun x y => ∃ k : Nat, x = .int .i64 (nd leaf k : Int) ∧ y = .int .i64 (k : Int) ∧ k ≤ i) (fun _ y => 6 - (intOf y).toNat)
  case atStart => exact ⟨0, by rw [HN0.out], rfl, by omega⟩
  case round =>
    obtain ⟨k, rfl, rfl, hk⟩ := hrel
    have hk6 : (k : Int) < 6 := by omega
    have c0 := HA.out.cell k (by rw [pathL_len]; omega)
    rw [path_at leaf k (by omega)] at c0
    have hkl := nd_le leaf k h (by omega)
    by_cases hlt : k < i
    · have hne : ((nd leaf (k + 1) : Int) == (N : Int)) = false := by have := HNE.out k hlt; rw [beq_eq_false_iff_ne]; omega
      go_wp2_with fail
      go_round
      case rel => exact ⟨k + 1, rfl, by go_num, by omega⟩
      case measure => simp [intOf]; omega
    · obtain rfl : k = i := by omega
      rw [HEQ.out k rfl] at c0
      go_wp2_with fail
      go_ret2
      exact ⟨by first | done | rfl | (rw [HS.out]; rfl) | (rw [← HS.out]; rfl) | simp | (trace_state; fail), B1⟩
set_option maxRecDepth 100000 in
set_option maxHeartbeats 1000000 in
theorem side_miss (leaf : Nat) (n : Int) (w : World) (h : leaf < 64) (hn : ∀ j, j < 6 → (nd leaf (j + 1) : Int) ≠ n) : Calls Tryd.prog 43 #[.int .i64 (leaf : Int), .int .i64 n] w fun e w' => e = .returned (.tuple #[.int .i64 0, .int .i64 3]) ∧ Below w.heap.size w w' := by
  have HP := Lib.hid (path_yes leaf w h)
  have HN0 : Hid (((nd leaf 0 : Nat) : Int) = 63 + (leaf : Int)) := Lib.hid (by rw [nd_zero]; push_cast; rfl)
  have HNE := Lib.hid hn
  clear hn
  go_enter Tryd.func43, Tryd.ntmps43
  go_wp2_with fail
  refine HP.out.mono ?_
  rintro e w1 ⟨v, rfl, HO, B1⟩
  obtain ⟨g, c, rfl, hgc, hgb, hgl, hr⟩ := own_rowI HO (by omega)
  have HA : Hid (NAt w1 g (pathL leaf 6)) := Lib.hid ⟨hr, hgl⟩
  clear HO hr HP
  go_wp2_with fail
  go_loop [8, 23] (fun x y => ∃ k : Nat, x = .int .i64 (nd leaf k : Int) ∧ y = .int .i64 (k : Int) ∧ k ≤ 6) (fun _ y => 6 - (intOf y).toNat)
  case atStart => exact ⟨0, by rw [HN0.out], rfl, by omega⟩
  case round =>
    obtain ⟨k, rfl, rfl, hk⟩ := hrel
    by_cases hlt : k < 6
    · have hk6 : (k : Int) < 6 := by omega
      have c0 := HA.out.cell k (by rw [pathL_len]; omega)
      rw [path_at leaf k (by omega)] at c0
      have hne : ((nd leaf (k + 1) : Int) == n) = false := by have := HNE.out k hlt; rw [beq_eq_false_iff_ne]; omega
      go_wp2_with fail
      go_round
      case rel => exact ⟨k + 1, rfl, by go_num, by omega⟩
      case measure => simp [intOf]; omega
    · obtain rfl : k = 6 := by omega
      rw [show ((6 : Nat) : Int) = 6 from rfl]
      go_wp2_with fail
      go_ret2
      exact ⟨rfl, B1⟩
end Go.Proofs.YtaneecmfgfkaaaaDoor
