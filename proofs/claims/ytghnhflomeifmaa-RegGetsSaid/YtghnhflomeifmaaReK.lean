/- The law RegPuts: its body. -/
import Derived.Test.YtghnhflomeifmaaReJ
import Derived.Test.YtghnhflomeifmaaReC
namespace Go.Proofs.Ytghnhflomeifmaa
open Go.RowKit Go.Deep
set_option linter.unusedVariables false
set_option linter.unusedSimpArgs false
theorem right_yes (R : Rg) (w : World) (h : Rt R) : Calls Try.prog 8 #[.agg (rcells R)] w fun e w' => e = .returned (.bool true) ∧ Below w.heap.size w w' := by
  obtain ⟨b, hb, hc⟩ := right_any R w
  rw [hb.2 h] at hc
  exact hc
theorem right_no (R : Rg) (w : World) (h : ¬ Rt R) : Calls Try.prog 8 #[.agg (rcells R)] w fun e w' => e = .returned (.bool false) ∧ Below w.heap.size w w' := by
  obtain ⟨b, hb, hc⟩ := right_any R w
  cases b
  · exact hc
  · exact absurd (hb.1 rfl) h
attribute [local irreducible] rcells RD layS
set_option maxRecDepth 100000 in
set_option maxHeartbeats 1000000 in
theorem regPuts_yes (R : Rg) (w : World) (h : Rt R) : Calls Try.prog 3 #[.agg (rcells R)] w fun e w' => e = .returned (.bool true) ∧ Below w.heap.size w w' := by
  have HP := Lib.hid (fun w => regPut_yes R w h)
  have HC := Lib.hid (fun w => check_yes R w h)
  have HT := Lib.hid (fun w => right_yes R w h)
  have HL := Lib.hid (fun w => r11lay_any R w h)
  have HA := Lib.hid awake_any
  generalize layS R = L at *
  obtain ⟨w0, HE, HR0, B0⟩ := box_reg w R
  clear h
  go_enter Try.func3, Try.ntmps3
  go_upto_region 1 with fail
  rw [HE.out]
  clear HE
  have L0 := loaded_reg HR0
  go_wp2_with ((with_reducible refine wpList_load_row_i (g := w.heap.size) (cs := rcells R) 27 _ rfl ?_ ?_ ?_); exact ⟨rfl, rfl⟩; assumption)
  refine (HP.out _).mono ?_
  rintro e w1 ⟨rfl, b1⟩
  have HR1 := HR0.below b1 HR0.lt
  have B1 := B0.trans (b1.mono B0.size)
  have L1 := loaded_reg HR1
  clear L0 HR0 B0 b1 HP
  go_wp2_with ((with_reducible refine wpList_load_row_i (g := w.heap.size) (cs := rcells R) 27 _ rfl ?_ ?_ ?_); exact ⟨rfl, rfl⟩; assumption)
  refine (HC.out _).mono ?_
  rintro e w2 ⟨rfl, b2⟩
  have HR2 := HR1.below b2 HR1.lt
  have B2 := B1.trans (b2.mono B1.size)
  have L2 := loaded_reg HR2
  clear L1 HR1 B1 b2 HC
  go_wp2_with ((with_reducible refine wpList_load_row_i (g := w.heap.size) (cs := rcells R) 27 _ rfl ?_ ?_ ?_); exact ⟨rfl, rfl⟩; assumption)
  refine (HT.out _).mono ?_
  rintro e w3 ⟨rfl, b3⟩
  have HR3 := HR2.below b3 HR2.lt
  have B3 := B2.trans (b3.mono B2.size)
  clear L2 HR2 B2 b3 HT
  go_wp2_with fail
  refine (HA.out _).mono ?_
  rintro e w4 ⟨rfl, b4⟩
  have HR4 := HR3.below b4 HR3.lt
  have B4 := B3.trans (b4.mono B3.size)
  have L4 := loaded_reg HR4
  clear HR3 B3 b4 HA
  go_wp2_with ((with_reducible refine wpList_load_row_i (g := w.heap.size) (cs := rcells R) 27 _ rfl ?_ ?_ ?_); exact ⟨rfl, rfl⟩; assumption)
  refine (HL.out _).mono ?_
  rintro e w5 ⟨rfl, b5⟩
  have B5 := B4.trans (b5.mono B4.size)
  have hq : (L.toList == L.toList) = true := by simp
  clear L4 HR4 B4 b5 HL
  go_wp2
  go_ret
  exact ⟨rfl, B5⟩
set_option maxRecDepth 100000 in
set_option maxHeartbeats 1000000 in
theorem regPuts_no (R : Rg) (w : World) (h : ¬ Rt R) : Calls Try.prog 3 #[.agg (rcells R)] w fun e w' => e = .returned (.bool true) ∧ Below w.heap.size w w' := by
  have HP := Lib.hid (fun w => regPut_no R w h)
  have HC := Lib.hid (fun w => check_no R w h)
  have HT := Lib.hid (fun w => right_no R w h)
  have HA := Lib.hid awake_any
  obtain ⟨w0, HE, HR0, B0⟩ := box_reg w R
  clear h
  go_enter Try.func3, Try.ntmps3
  go_upto_region 1 with fail
  rw [HE.out]
  clear HE
  have L0 := loaded_reg HR0
  go_wp2_with ((with_reducible refine wpList_load_row_i (g := w.heap.size) (cs := rcells R) 27 _ rfl ?_ ?_ ?_); exact ⟨rfl, rfl⟩; assumption)
  refine (HP.out _).mono ?_
  rintro e w1 ⟨rfl, b1⟩
  have HR1 := HR0.below b1 HR0.lt
  have B1 := B0.trans (b1.mono B0.size)
  have L1 := loaded_reg HR1
  clear L0 HR0 B0 b1 HP
  go_wp2_with ((with_reducible refine wpList_load_row_i (g := w.heap.size) (cs := rcells R) 27 _ rfl ?_ ?_ ?_); exact ⟨rfl, rfl⟩; assumption)
  refine (HC.out _).mono ?_
  rintro e w2 ⟨rfl, b2⟩
  have HR2 := HR1.below b2 HR1.lt
  have B2 := B1.trans (b2.mono B1.size)
  have L2 := loaded_reg HR2
  clear L1 HR1 B1 b2 HC
  go_wp2_with ((with_reducible refine wpList_load_row_i (g := w.heap.size) (cs := rcells R) 27 _ rfl ?_ ?_ ?_); exact ⟨rfl, rfl⟩; assumption)
  refine (HT.out _).mono ?_
  rintro e w3 ⟨rfl, b3⟩
  have B3 := B2.trans (b3.mono B2.size)
  clear L2 HR2 B2 b3 HT
  go_wp2_with fail
  refine (HA.out _).mono ?_
  rintro e w4 ⟨rfl, b4⟩
  have B4 := B3.trans (b4.mono B3.size)
  clear B3 b4 HA
  go_wp2
  go_ret
  exact ⟨rfl, B4⟩
end Go.Proofs.Ytghnhflomeifmaa
