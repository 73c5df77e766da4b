/- Contracts (cellaret): node.Path. -/
import Derived.Test.YtaneecmfgfkaaaaDoorSpB
namespace Go.Proofs.YtaneecmfgfkaaaaDoor
open Go.RowKit Go.Deep
set_option linter.unusedVariables false
set_option linter.unusedSimpArgs false
/-- The node k levels above a leaf's place. -/
def nd (leaf : Nat) : Nat → Nat
  | 0 => 63 + leaf
  | k + 1 => (nd leaf k - 1) / 2
theorem nd_facts : ∀ leaf ∈ List.range 64, nd leaf 6 = 0 ∧ ∀ k ∈ List.range 6, 0 < nd leaf k ∧ nd leaf (k + 1) < 63 ∧ (nd leaf k = 2 * nd leaf (k + 1) + 1 ∨ nd leaf k = 2 * nd leaf (k + 1) + 2) := by decide +kernel
theorem nd_pos (leaf k : Nat) (h : leaf < 64) (hk : k < 6) : 0 < nd leaf k := ((nd_facts leaf (List.mem_range.2 h)).2 k (List.mem_range.2 hk)).1
theorem nd_6 (leaf : Nat) (h : leaf < 64) : nd leaf 6 = 0 := (nd_facts leaf (List.mem_range.2 h)).1
theorem nd_le (leaf k : Nat) (h : leaf < 64) (hk : k ≤ 6) : nd leaf k ≤ 126 := by
  rcases Nat.lt_or_ge k 6 with h6 | h6
  · cases k with
    | zero => show 63 + leaf ≤ 126; omega
    | succ k => have := ((nd_facts leaf (List.mem_range.2 h)).2 k (List.mem_range.2 (by omega))).2.1; omega
  · obtain rfl : k = 6 := by omega
    rw [nd_6 leaf h]; omega
theorem nd_two (leaf k : Nat) (h : leaf < 64) (hk : k < 6) : nd leaf (k + 1) < 63 ∧ (nd leaf k = 2 * nd leaf (k + 1) + 1 ∨ nd leaf k = 2 * nd leaf (k + 1) + 2) := ((nd_facts leaf (List.mem_range.2 h)).2 k (List.mem_range.2 hk)).2
def pathL (leaf k : Nat) : List Nat := (List.range k).map fun i => nd leaf (i + 1)
theorem pathL_snoc (leaf k : Nat) : pathL leaf (k + 1) = pathL leaf k ++ [nd leaf (k + 1)] := by unfold pathL; rw [List.range_succ, List.map_append]; rfl
theorem pathL_at (leaf k i : Nat) (h : i < k) : lget (pathL leaf k) i = nd leaf (i + 1) := by
  unfold pathL lget
  rw [List.getElem?_map, List.getElem?_range h]
  rfl
theorem pathL_len (leaf k : Nat) : (pathL leaf k).length = k := by unfold pathL; simp
theorem nd_succ (leaf k : Nat) : nd leaf (k + 1) = (nd leaf k - 1) / 2 := rfl
theorem nd_ne_facts : ∀ leaf ∈ List.range 64, ∀ i ∈ List.range 6, ∀ j ∈ List.range 6, i ≠ j → nd leaf (i + 1) ≠ nd leaf (j + 1) := by decide +kernel
theorem nd_ne (leaf i j : Nat) (h : leaf < 64) (hi : i < 6) (hj : j < 6) (hne : i ≠ j) : nd leaf (i + 1) ≠ nd leaf (j + 1) := nd_ne_facts leaf (List.mem_range.2 h) i (List.mem_range.2 hi) j (List.mem_range.2 hj) hne
theorem nd_half (leaf k : Nat) (h : leaf < 64) (hk : k < 6) : ((nd leaf k : Int) - 1) / 2 = (nd leaf (k + 1) : Int) := by
  have := nd_pos leaf k h hk
  rw [nd_succ]
  omega
attribute [local irreducible] nd
set_option maxRecDepth 100000 in
set_option maxHeartbeats 1000000 in
theorem path_no (leaf : Int) (w : World) (h : leaf < 0 ∨ 63 < leaf) : Calls Tryd.prog 42 #[.int .i64 leaf] w fun e w' => e = .returned (.tuple #[.slice none 0 0, .int .i64 3]) ∧ w = w' := by
  rcases h with h | h
  · go_enter Tryd.func42, Tryd.ntmps42
    go_wp2_with (go_in)
    go_ret2
    exact ⟨rfl, rfl⟩
  · have h' : 0 ≤ leaf := by omega
    have h2 : ¬ leaf < 64 := by omega
    have hd : decide (leaf < 64) = false := decide_eq_false h2
    go_enter Tryd.func42, Tryd.ntmps42
    go_wp2_with (go_in)
    go_ret2
    exact ⟨rfl, rfl⟩
end Go.Proofs.YtaneecmfgfkaaaaDoor
