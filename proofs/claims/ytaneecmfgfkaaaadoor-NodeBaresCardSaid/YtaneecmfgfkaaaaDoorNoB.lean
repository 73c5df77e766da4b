/- Contracts (cellaret): node.Path of a leaf. -/
import Derived.Test.YtaneecmfgfkaaaaDoorNoA
import Derived.Laws.AppendOwn
namespace Go.Proofs.YtaneecmfgfkaaaaDoor
open Go.RowKit Go.Deep
set_option linter.unusedVariables false
set_option linter.unusedSimpArgs false
theorem nd_zero (leaf : Nat) : nd leaf 0 = 63 + leaf := rfl
theorem isLeaf_yes (leaf : Int) (w : World) (h1 : 0 ≤ leaf) (h2 : leaf < 64) : Calls Tryd.prog 54 #[.int .i64 leaf] w fun e w' => e = .returned (.bool true) ∧ w = w' := by
  go_enter Tryd.func54, Tryd.ntmps54
  go_wp2
  go_ret
  exact ⟨rfl, rfl⟩
attribute [local irreducible] nd pathL
set_option maxRecDepth 100000 in
set_option maxHeartbeats 1000000 in
theorem path_yes (leaf : Nat) (w : World) (h : leaf < 64) : Calls Tryd.prog 42 #[.int .i64 (leaf : Int)] w fun e w' => ∃ v, e = .returned (.tuple #[v, .int .i64 0]) ∧ w'.ownsRow w.heap.size 3 1 v 6 (nv (pathL leaf 6)) ∧ Below w.heap.size w w' := by
  obtain ⟨i0, hi, hz0, hz1, hz2⟩ := info_parts' info_i64'
  have h1 : (leaf : Int) < 64 := by omega
  have h2 : 0 ≤ (leaf : Int) := by omega
  have HN0 : Hid (((nd leaf 0 : Nat) : Int) = 63 + (leaf : Int)) := Lib.hid (by rw [nd_zero]; push_cast; rfl)
  go_enter Tryd.func42, Tryd.ntmps42
  go_wp2_with fail
  refine (isLeaf_yes _ _ h2 h1).mono ?_
  rintro e w' ⟨rfl, rfl⟩
  go_wp2_with fail
  go_loopw [4, 5] (fun s x wi => ∃ k : Nat, x = .int .i64 (nd leaf k : Int) ∧ k ≤ 6 ∧ Hid (wi.ownsRow w.heap.size 3 1 s k (nv (pathL leaf k))) ∧ Hid (Below w.heap.size w wi)) (fun _ x _ => (intOf x).toNat)
  case atStart => exact ⟨0, by rw [HN0.out], by omega, Lib.hid (by with_unfolding_all exact World.ownsRow_nil _ _ _ _), Lib.hid (Below.refl _ _)⟩
  case round =>
    obtain ⟨k, rfl, hk, HO, HB⟩ := hrel
    obtain ⟨a, c, rfl, hc1, hc2⟩ := own_sl HO.out
    have hle := nd_le leaf k h hk
    by_cases hlt : k < 6
    · have hp := nd_pos leaf k h hlt
      have HH := Lib.hid (nd_half leaf k h hlt)
      have hnx : nd leaf (k + 1) < nd leaf k := by have := nd_two leaf k h hlt; omega
      have HPS : Hid (nv (pathL leaf (k + 1)) = nv (pathL leaf k) ++ [.int .i64 (nd leaf (k + 1) : Int)]) := Lib.hid (by rw [pathL_snoc, nv_app]; rfl)
      have HSZ := HB.out.size
      generalize nd leaf k = m at *
      have hp' : (0 : Int) < (m : Int) := by omega
      go_wp2_with (at_builtin; rw [HH.out]; refine wpList_append_own _ rfl _ _ 88 rfl w.heap.size 3 i0 (.int .i64 0) 1 8 Tryd.underlying88 hi hz0 hz1 hz2 rfl (by decide) _ _ _ rfl (HO.out.alloc _) ⟨wr.heap.size, 0, none⟩ 1 1 [.int .i64 (nd leaf (k + 1) : Int)] rfl rfl (one_cell_at wr _ _) (by intro u hu; simp at hu; subst hu; rfl) (by unfold maxLen; omega) (by omega) (by simp; omega) ?_; intro v' w1 O1 G1 _; obtain ⟨a1, c1, rfl, _, _⟩ := own_sl O1)
      have B1 : Below w.heap.size w w1 := (HB.out.alloc HSZ _).grown G1 (by simp; omega) (fun j e => (HO.out.lt j e).1)
      go_wp2_with fail
      go_roundw
      case rel => exact ⟨k + 1, by first | rfl | rw [HH.out], by omega, Lib.hid (by rw [HPS.out]; exact O1), Lib.hid B1⟩
      case measure => simp [intOf]; omega
    · obtain rfl : k = 6 := by omega
      rw [nd_6 leaf h]
      go_wp2_with fail
      go_ret2
      exact ⟨_, rfl, HO.out, HB.out⟩
end Go.Proofs.YtaneecmfgfkaaaaDoor
