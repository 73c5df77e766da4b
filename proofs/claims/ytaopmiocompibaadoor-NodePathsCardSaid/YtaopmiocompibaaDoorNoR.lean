/- The law NodePaths: leaves that are not below n (made by gennp.py). -/
import Derived.Test.YtaopmiocompibaaDoorNoE
namespace Go.Proofs.YtaopmiocompibaaDoor
open Go.RowKit Go.Deep
set_option linter.unusedVariables false
set_option linter.unusedSimpArgs false
attribute [local irreducible] nd pathL sdv
theorem round_below (leaf i : Nat) (hl : leaf < 64) (hi6 : i < 6) : (i = 0 ∧ Hid (∀ w, Calls Tryd.prog 11 #[.int .i64 (nd leaf (i + 1) : Int), .int .i64 (sdv leaf i : Int)] w fun e w' => e = .returned (.tuple #[.int .i64 (leaf : Int), .bool true, .int .i64 0]) ∧ w = w')) ∨ (∃ i', i = i' + 1 ∧ nd leaf i < 63 ∧ Hid (∀ w, Calls Tryd.prog 11 #[.int .i64 (nd leaf (i + 1) : Int), .int .i64 (sdv leaf i : Int)] w fun e w' => e = .returned (.tuple #[.int .i64 (nd leaf i : Int), .bool false, .int .i64 0]) ∧ w = w')) := by
  have hsd := sdv_two leaf i hl hi6
  have hnl := (nd_two leaf i hl hi6).1
  cases i with
  | zero =>
    refine Or.inl ⟨rfl, Lib.hid (fun w => ?_)⟩
    have h0 := nd_zero leaf
    have := below_leaf (nd leaf (0 + 1)) (sdv leaf 0) w hnl hsd.1 (by omega)
    rwa [← hsd.2, h0, show 63 + leaf - 63 = leaf from by omega] at this
  | succ i' =>
    have h2 := (nd_two leaf i' hl (by omega)).1
    refine Or.inr ⟨i', rfl, h2, Lib.hid (fun w => ?_)⟩
    have := below_node (nd leaf (i' + 1 + 1)) (sdv leaf (i' + 1)) w hnl hsd.1 (by omega)
    rwa [← hsd.2] at this
end Go.Proofs.YtaopmiocompibaaDoor
