/- The laws RegGets, RegBack: their bodies. -/
import Derived.Test.YtghnhflomeifmaaReR
namespace Go.Proofs.Ytghnhflomeifmaa
open Go.ChangeShapes Go.WideShapes Go.RowKit Go.Deep
set_option linter.unusedVariables false
set_option linter.unusedSimpArgs false
attribute [local irreducible] rcells RD layS
set_option maxRecDepth 100000 in
set_option maxHeartbeats 1000000 in
theorem regGets_walk (s : ByteArray) (w : World) (hs : s.size ≤ 140737488351232) : Calls Try.prog 4 #[.string s] w fun e w' => e = .returned (.bool true) ∧ Below w.heap.size w w' := by
  obtain ⟨X, c, HG, HR, _⟩ := get_cases s
  have HA := Lib.hid awake_any
  have hzv := zero_reg
  have hq := reg_eql X
  have hcc : (c == c) = true := by simp
  have hs0 := rcells_size R0
  go_enter Try.func4, Try.ntmps4
  go_wp2_with fail
  refine (HG.out _).mono ?_
  rintro e w1 ⟨rfl, b1⟩
  obtain ⟨w2, HW2, HX2, b2⟩ := stored_reg w1 X
  have B2 := b1.trans (b2.mono b1.size)
  clear b1 b2 hs0
  go_upto_region 2 with (refine wpList_store_row rfl _ _ _ rfl w1.heap.size (rcells X) rfl rfl 27 _ (heap_alloc_new _ _) (by rw [rcells_size]; kernel_rfl) (by rw [rcells_size, rcells_size]) (rcells_one _) ?_)
  rw [HW2.out]
  clear HW2
  generalize w1.heap.size = g1 at *
  go_wp2_with fail
  refine (HR.out _).mono ?_
  rintro e w3 ⟨rfl, b3⟩
  have HX3 := HX2.below b3 HX2.lt
  have B3 := B2.trans (b3.mono B2.size)
  obtain ⟨w4, HW4, HY4, b4⟩ := stored_reg w3 X
  have HX4 := HX3.below b4 HX3.lt
  have B4 := B3.trans (b4.mono B3.size)
  clear b3 b4 B2 B3 HX2 HX3
  go_upto_region 3 with (refine wpList_store_row rfl _ _ _ rfl w3.heap.size (rcells X) rfl rfl 27 _ (heap_alloc_new _ _) (by rw [rcells_size]; kernel_rfl) (by rw [rcells_size, rcells_size]) (rcells_one _) ?_)
  rw [HW4.out]
  clear HW4
  generalize w3.heap.size = g2 at *
  go_wp2_with fail
  refine (HA.out _).mono ?_
  rintro e w5 ⟨rfl, b5⟩
  have L1 := loaded_reg (HX4.below b5 HX4.lt)
  have L2 := loaded_reg (HY4.below b5 HY4.lt)
  have B5 := B4.trans (b5.mono B4.size)
  clear b5 B4 HX4 HY4
  go_wp2_with (first | ((with_reducible refine wpList_load_row_i (g := g1) (cs := rcells X) 27 _ rfl ?_ ?_ ?_); exact ⟨rfl, rfl⟩; assumption) | ((with_reducible refine wpList_load_row_i (g := g2) (cs := rcells X) 27 _ rfl ?_ ?_ ?_); exact ⟨rfl, rfl⟩; assumption))
  go_ret
  exact ⟨rfl, B5⟩
set_option maxRecDepth 100000 in
set_option maxHeartbeats 2000000 in
theorem regBack_any (R : Rg) (s : ByteArray) (w : World) : Calls Try.prog 5 #[.agg (rcells R), .string s] w fun e w' => e = .returned (.bool true) ∧ Below w.heap.size w w' := by
  obtain ⟨X, c, HG, _, hX⟩ := get_cases s
  have HA := Lib.hid awake_any
  have hzv := zero_reg
  have hq := reg_neq R
  have hs0 := rcells_size R0
  obtain ⟨w0, HE, HR0, B0⟩ := box_reg w R
  by_cases hR : Rt R
  · have HP := Lib.hid (fun w => regPut_yes R w hR)
    have HL := Lib.hid (fun w => get_lay R w hR)
    generalize layS R = L at *
    clear hR
    go_enter Try.func5, Try.ntmps5
    go_upto_region 1 with fail
    rw [HE.out]
    clear HE
    have L0 := loaded_reg HR0
    go_wp2_with ((with_reducible refine wpList_load_row_i (g := w.heap.size) (cs := rcells R) 27 _ rfl ?_ ?_ ?_); exact ⟨rfl, rfl⟩; assumption)
    refine (HP.out _).mono ?_
    rintro e w1 ⟨rfl, b1⟩
    have HR1 := HR0.below b1 HR0.lt
    have B1 := B0.trans (b1.mono B0.size)
    clear L0 HR0 B0 b1 HP
    go_wp2_with fail
    refine (HL.out _).mono ?_
    rintro e w2 ⟨rfl, b2⟩
    have HR2 := HR1.below b2 HR1.lt
    have B2 := B1.trans (b2.mono B1.size)
    obtain ⟨w3, HW3, HY3, b3⟩ := stored_reg w2 R
    have HR3 := HR2.below b3 HR2.lt
    have B3 := B2.trans (b3.mono B2.size)
    clear b2 b3 B1 B2 HR1 HR2 HL hs0
    go_upto_region 4 with (refine wpList_store_row rfl _ _ _ rfl w2.heap.size (rcells R) rfl rfl 27 _ (heap_alloc_new _ _) (by rw [rcells_size]; kernel_rfl) (by rw [rcells_size, rcells_size]) (rcells_one _) ?_)
    rw [HW3.out]
    clear HW3
    generalize w2.heap.size = g1 at *
    have L1 := loaded_reg HR3
    have L2 := loaded_reg HY3
    clear HR3 HY3
    go_upto_region 6 with (first | ((with_reducible refine wpList_load_row_i (g := g1) (cs := rcells R) 27 _ rfl ?_ ?_ ?_); exact ⟨rfl, rfl⟩; assumption) | ((with_reducible refine wpList_load_row_i (g := w.heap.size) (cs := rcells R) 27 _ rfl ?_ ?_ ?_); exact ⟨rfl, rfl⟩; assumption))
    clear L1 L2
    rcases hX with ⟨rfl, hX1, hX2⟩ | hX
    · have HP2 := Lib.hid (fun w => regPut_yes X w hX1)
      rw [hX2] at HP2
      clear hX1 hX2
      go_wp2_with fail
      refine (HG.out _).mono ?_
      rintro e w4 ⟨rfl, b4⟩
      have B4 := B3.trans (b4.mono B3.size)
      obtain ⟨w5, HW5, HX5, b5⟩ := stored_reg w4 X
      have B5 := B4.trans (b5.mono B4.size)
      clear b4 b5 B3 B4 HG hq
      go_upto_region 7 with (refine wpList_store_row rfl _ _ _ rfl w4.heap.size (rcells X) rfl rfl 27 _ (heap_alloc_new _ _) (by rw [rcells_size]; kernel_rfl) (by rw [rcells_size, rcells_size]) (rcells_one _) ?_)
      rw [HW5.out]
      clear HW5
      generalize w4.heap.size = g5 at *
      have L5 := loaded_reg HX5
      go_wp2_with ((with_reducible refine wpList_load_row_i (g := g5) (cs := rcells X) 27 _ rfl ?_ ?_ ?_); exact ⟨rfl, rfl⟩; assumption)
      refine (HP2.out _).mono ?_
      rintro e w6 ⟨rfl, b6⟩
      have B6 := B5.trans (b6.mono B5.size)
      clear b6 B5 L5 HX5
      go_wp2_with fail
      refine (HA.out _).mono ?_
      rintro e w7 ⟨rfl, b7⟩
      have B7 := B6.trans (b7.mono B6.size)
      have hss : (s.toList == s.toList) = true := by simp
      go_wp2
      go_ret
      exact ⟨rfl, B7⟩
    · go_wp2_with fail
      refine (HG.out _).mono ?_
      rintro e w4 ⟨rfl, b4⟩
      have B4 := B3.trans (b4.mono B3.size)
      obtain ⟨w5, HW5, HX5, b5⟩ := stored_reg w4 X
      have B5 := B4.trans (b5.mono B4.size)
      clear b4 b5 B3 B4 HG hq
      go_upto_region 7 with (refine wpList_store_row rfl _ _ _ rfl w4.heap.size (rcells X) rfl rfl 27 _ (heap_alloc_new _ _) (by rw [rcells_size]; kernel_rfl) (by rw [rcells_size, rcells_size]) (rcells_one _) ?_)
      rw [HW5.out]
      clear HW5
      generalize w4.heap.size = g5 at *
      go_wp2_with fail
      refine (HA.out _).mono ?_
      rintro e w7 ⟨rfl, b7⟩
      have B7 := B5.trans (b7.mono B5.size)
      go_wp2
      go_ret
      exact ⟨rfl, B7⟩
  · have HP := Lib.hid (fun w => regPut_no R w hR)
    clear hR
    go_enter Try.func5, Try.ntmps5
    go_upto_region 1 with fail
    rw [HE.out]
    clear HE
    have L0 := loaded_reg HR0
    go_wp2_with ((with_reducible refine wpList_load_row_i (g := w.heap.size) (cs := rcells R) 27 _ rfl ?_ ?_ ?_); exact ⟨rfl, rfl⟩; assumption)
    refine (HP.out _).mono ?_
    rintro e w3 ⟨rfl, b1⟩
    have B3 := B0.trans (b1.mono B0.size)
    clear L0 HR0 B0 b1 HP hs0
    go_upto_region 6 with fail
    rcases hX with ⟨rfl, hX1, hX2⟩ | hX
    · have HP2 := Lib.hid (fun w => regPut_yes X w hX1)
      rw [hX2] at HP2
      clear hX1 hX2
      go_wp2_with fail
      refine (HG.out _).mono ?_
      rintro e w4 ⟨rfl, b4⟩
      have B4 := B3.trans (b4.mono B3.size)
      obtain ⟨w5, HW5, HX5, b5⟩ := stored_reg w4 X
      have B5 := B4.trans (b5.mono B4.size)
      clear b4 b5 B3 B4 HG hq
      go_upto_region 7 with (refine wpList_store_row rfl _ _ _ rfl w4.heap.size (rcells X) rfl rfl 27 _ (heap_alloc_new _ _) (by rw [rcells_size]; kernel_rfl) (by rw [rcells_size, rcells_size]) (rcells_one _) ?_)
      rw [HW5.out]
      clear HW5
      generalize w4.heap.size = g5 at *
      have L5 := loaded_reg HX5
      go_wp2_with ((with_reducible refine wpList_load_row_i (g := g5) (cs := rcells X) 27 _ rfl ?_ ?_ ?_); exact ⟨rfl, rfl⟩; assumption)
      refine (HP2.out _).mono ?_
      rintro e w6 ⟨rfl, b6⟩
      have B6 := B5.trans (b6.mono B5.size)
      clear b6 B5 L5 HX5
      go_wp2_with fail
      refine (HA.out _).mono ?_
      rintro e w7 ⟨rfl, b7⟩
      have B7 := B6.trans (b7.mono B6.size)
      have hss : (s.toList == s.toList) = true := by simp
      go_wp2
      go_ret
      exact ⟨rfl, B7⟩
    · go_wp2_with fail
      refine (HG.out _).mono ?_
      rintro e w4 ⟨rfl, b4⟩
      have B4 := B3.trans (b4.mono B3.size)
      obtain ⟨w5, HW5, HX5, b5⟩ := stored_reg w4 X
      have B5 := B4.trans (b5.mono B4.size)
      clear b4 b5 B3 B4 HG hq
      go_upto_region 7 with (refine wpList_store_row rfl _ _ _ rfl w4.heap.size (rcells X) rfl rfl 27 _ (heap_alloc_new _ _) (by rw [rcells_size]; kernel_rfl) (by rw [rcells_size, rcells_size]) (rcells_one _) ?_)
      rw [HW5.out]
      clear HW5
      generalize w4.heap.size = g5 at *
      go_wp2_with fail
      refine (HA.out _).mono ?_
      rintro e w7 ⟨rfl, b7⟩
      have B7 := B5.trans (b7.mono B5.size)
      go_wp2
      go_ret
      exact ⟨rfl, B7⟩
section
variable {H : Type} {enc : TypeId × Value → H}
theorem regBack_walk {r : Reach} {b0 : Nat} (v : Value) (d : DataW H) (p : List MemPlace) (s : ByteArray) (w : World) (hok : Value.okWide Try.prog w r b0 27 v) (h : DataW.Trod enc Try.prog w 0 (fun _ => true) true 27 v d p) (hs : s.size ≤ 140737488351232) :
    Calls Try.prog 5 #[v, .string s] w fun e w' => e = .returned (.bool true) ∧ Below w.heap.size w w' := by
  obtain ⟨R, rfl⟩ := open_reg hok h
  exact regBack_any R s w
end
end Go.Proofs.Ytghnhflomeifmaa
