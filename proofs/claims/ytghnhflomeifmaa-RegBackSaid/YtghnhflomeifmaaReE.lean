/- Contracts (cellaret): reg.Put. -/
import Derived.Test.YtghnhflomeifmaaReD
namespace Go.Proofs.Ytghnhflomeifmaa
open Go.RowKit Go.Deep
set_option linter.unusedVariables false
set_option linter.unusedSimpArgs false
set_option maxRecDepth 100000 in
set_option maxHeartbeats 2000000 in
theorem regPut_yes (R : Rg) (w : World) (h : Rt R) : Calls Try.prog 6 #[.agg (rcells R)] w fun e w' => e = .returned (.tuple #[.string (layS R), .int .i64 0]) ∧ Below w.heap.size w w' := by
  have HC := Lib.hid (fun w => check_yes R w h)
  have HL := Lib.hid (fun w => lay_reg R w)
  obtain ⟨w0, HE, HR0, B0⟩ := box_reg w R
  have hH : w0.heap[w.heap.size]? = some (.cells (rcells R) 27 (0, 0)) := HR0
  clear h
  generalize layS R = L at HL ⊢
  go_enter Try.func6, Try.ntmps6
  go_wp2_with (refine wpList_load_row rfl _ _ rfl w.heap.size rfl 27 (rcells R) (0, 0) _ (by rw [HE.out]; exact hH) Try.underlying27 rfl (by rw [rcells_size]; kernel_rfl) ?_)
  rw [HE.out]
  clear HE
  refine (HC.out _).mono ?_
  rintro e w1 ⟨rfl, b1⟩
  have HR1 := HR0.below b1 HR0.lt
  have B1 := B0.trans (b1.mono B0.size)
  have hH1 : w1.heap[w.heap.size]? = some (.cells (rcells R) 27 (0, 0)) := HR1
  clear hH b1 HR0 B0 HC
  go_wp2_with (refine wpList_load_row rfl _ _ rfl w.heap.size rfl 27 (rcells R) (0, 0) _ hH1 Try.underlying27 rfl (by rw [rcells_size]; kernel_rfl) ?_)
  refine (HL.out _).mono ?_
  rintro e w2 ⟨rfl, b2⟩
  have B2 := B1.trans (b2.mono B1.size)
  go_wp2
  go_ret2
  exact ⟨rfl, B2⟩
set_option maxRecDepth 100000 in
set_option maxHeartbeats 2000000 in
theorem regPut_no (R : Rg) (w : World) (h : ¬ Rt R) : Calls Try.prog 6 #[.agg (rcells R)] w fun e w' => e = .returned (.tuple #[.string ⟨#[]⟩, .int .i64 2]) ∧ Below w.heap.size w w' := by
  have HC := Lib.hid (fun w => check_no R w h)
  obtain ⟨w0, HE, HR0, B0⟩ := box_reg w R
  have hH : w0.heap[w.heap.size]? = some (.cells (rcells R) 27 (0, 0)) := HR0
  clear h
  go_enter Try.func6, Try.ntmps6
  go_wp2_with (refine wpList_load_row rfl _ _ rfl w.heap.size rfl 27 (rcells R) (0, 0) _ (by rw [HE.out]; exact hH) Try.underlying27 rfl (by rw [rcells_size]; kernel_rfl) ?_)
  rw [HE.out]
  clear HE
  refine (HC.out _).mono ?_
  rintro e w1 ⟨rfl, b1⟩
  have B1 := B0.trans (b1.mono B0.size)
  clear hH b1 HR0 B0 HC
  go_wp2
  go_ret2
  exact ⟨rfl, B1⟩
end Go.Proofs.Ytghnhflomeifmaa
