/- Package level: Copy. -/
import Derived.Test.YtdoeaepfjdjmmaaLvN
import Derived.Laws.Tables
import Derived.Laws.Rows
import Derived.Laws.CopyOwn
namespace Go.Proofs.Ytdoeaepfjdjmmaa
open Go.RowKit Go.Deep
set_option linter.unusedVariables false
set_option linter.unusedSimpArgs false
theorem q_info : (Try.prog.info? 55).map (·.size) = some 57 := by kernel_rfl
set_option maxRecDepth 100000 in
set_option maxHeartbeats 4000000 in
theorem copy_any (g n : Nat) (R : Nat → List Nat) (w : World) (h : QR w g n R) : Calls Try.prog 15 #[.pointer (some ⟨g, 0, none⟩)] w fun e w' => ∃ g', e = .returned (.pointer (some ⟨g', 0, none⟩)) ∧ w.heap.size ≤ g' ∧ QR w' g' n R ∧ Below w.heap.size w w' := by
  obtain ⟨F, hQ, hO⟩ := h
  have HO := Lib.hid hO
  obtain ⟨c, hb, hn, hc⟩ := hQ
  have HC := Lib.hid hc
  have HBL := Lib.hid hb
  have HN := Lib.hid hn
  have H1 : Hid (c.all (·.oneCell') = true) := Lib.hid (by
    refine Array.all_eq_true_iff_forall_mem.2 fun v hv => ?_
    obtain ⟨i, hi, rfl⟩ := Array.mem_iff_getElem.1 hv
    have := hc i (by omega)
    rw [Array.getElem?_eq_getElem hi] at this
    injection this with this
    rw [this]
    rfl)
  clear hb hn hc hO
  go_enter Try.func15, Try.ntmps15
  go_wp2_with (first | refine wpList_load_row rfl _ _ rfl g rfl 55 c (0, 0) _ HBL.out Try.underlying55 rfl (by rw [HN.out]; exact q_info) ?_ | refine wpList_store_row rfl _ _ _ rfl w.heap.size c rfl rfl 55 _ (heap_alloc_new _ _) (by rw [HN.out]; exact q_info) (by rw [HN.out]; rfl) H1.out ?_)
  go_ret
  exact ⟨_, rfl, Nat.le_refl _, ⟨F, ⟨c, setRow_heap _ _ _ c _ (0, 0) (heap_alloc_new w _), HN.out, HC.out⟩, HO.out⟩, below_setRow ((Below.refl _ _).alloc (Nat.le_refl _) _) (Nat.le_refl _) _⟩
end Go.Proofs.Ytdoeaepfjdjmmaa
