/- Contracts (cellaret): the layer's waking. -/
import Derived.Test.YtghnhflomeifmaaReI
import Derived.Test.YtghnhflomeifmaaReF
import Derived.Test.YtghnhflomeifmaaBeE
namespace Go.Proofs.Ytghnhflomeifmaa
open Go.RowKit Go.Deep
set_option linter.unusedVariables false
set_option linter.unusedSimpArgs false
def Ra : Rg := ⟨fun _ => 0, fun _ => 0, 7, 258, 0, 0, 3, 4, 2, 0, true⟩
def sA : ByteArray := ⟨(List.replicate 64 (0 : UInt8) ++ [0, 0, 0, 7, 0, 0, 0, 0, 0, 0, 1, 2, 0, 3, 0, 4, 2, 0, 1, 103] ++ List.replicate 12 (0 : UInt8)).toArray⟩
theorem sA_lay : layS Ra = sA := by kernel_rfl
theorem sA_size : sA.size = 96 := by kernel_rfl
theorem sA_RD : rcells (RD sA) = rcells Ra := by kernel_rfl
theorem sA_back : layS (RD sA) = sA := by kernel_rfl
theorem sA_nz : (sA.toList == zz96.toList) = false := by kernel_rfl
theorem sA_rt0 : Rt Ra := by
  refine ⟨fun i hi => ?_, (fun h => (by cases h)), Or.inl rfl⟩
  rcases i8 hi with rfl | rfl | rfl | rfl | rfl | rfl | rfl | rfl <;> simp [okF, fld, mst, Ra]
theorem sA_rt : Rt (RD sA) := by
  have e1 : (RD sA).ep = 7 := by kernel_rfl
  have e2 : (RD sA).iv = 258 := by kernel_rfl
  have e3 : (RD sA).a0 = 0 := by kernel_rfl
  have e4 : (RD sA).a1 = 0 := by kernel_rfl
  have e5 : (RD sA).u0 = 3 := by kernel_rfl
  have e6 : (RD sA).u1 = 4 := by kernel_rfl
  have e7 : (RD sA).di = 2 := by kernel_rfl
  have e8 : (RD sA).mo = 0 := by kernel_rfl
  have e9 : (RD sA).at_ = true := by kernel_rfl
  refine ⟨fun i hi => ?_, (fun h => (by rw [e9] at h; cases h)), Or.inl e8⟩
  rcases i8 hi with rfl | rfl | rfl | rfl | rfl | rfl | rfl | rfl <;> simp [okF, fld, mst, e1, e2, e3, e4, e5, e6, e7, e8]
theorem getA (w : World) : Calls Try.prog 11 #[.string sA] w fun e w' => e = .returned (.tuple #[.agg (rcells Ra), .int .i64 0]) ∧ Below w.heap.size w w' := by
  have := regget_ok sA w sA_size (Lib.hid sA_nz) sA_rt sA_back
  rw [sA_RD] at this
  exact this
theorem putA (w : World) : Calls Try.prog 6 #[.agg (rcells Ra)] w fun e w' => e = .returned (.tuple #[.string sA, .int .i64 0]) ∧ Below w.heap.size w w' := by
  have := regPut_yes Ra w sA_rt0
  rw [sA_lay] at this
  exact this
theorem Ra_lit : (((((((rcells R0).setIfInBounds 64 (Value.int IntKind.i64 7)).setIfInBounds 65 (Value.int IntKind.i64 258)).setIfInBounds 72 (Value.bool true)).setIfInBounds 70 (Value.int IntKind.i64 2)).setIfInBounds 68 (Value.int IntKind.i64 3)).setIfInBounds 69 (Value.int IntKind.i64 4)) = rcells Ra := by kernel_rfl
theorem stored_reg (w : World) (X : Rg) : ∃ w3, Hid ((w.alloc (.cells (rcells R0) 27)).setRow w.heap.size (rcells X) = w3) ∧ RegAt w3 w.heap.size X ∧ Below w.heap.size w w3 :=
  ⟨_, Lib.hid rfl, setRow_heap _ _ _ (rcells X) 27 (0, 0) (heap_alloc_new _ _), below_setRow ((Below.refl _ _).alloc (Nat.le_refl _) _) (Nat.le_refl _) _⟩
attribute [local irreducible] sA zz96 rcells RD
set_option maxRecDepth 100000 in
set_option maxHeartbeats 1000000 in
theorem awake_any (w : World) : Calls Try.prog 9 #[] w fun e w' => e = .returned (.bool true) ∧ Below w.heap.size w w' := by
  have HP := Lib.hid putA
  have HG := Lib.hid getA
  have HZ : Hid (∀ w, Calls Try.prog 15 #[.int .i64 96] w fun e w' => e = .returned (.string zz96) ∧ Below w.heap.size w w') := Lib.hid (fun w => by have := zeros_any 96 w (by omega); rw [show (⟨(List.replicate 96 (0 : UInt8)).toArray⟩ : ByteArray) = zz96 from by with_unfolding_all rfl] at this; exact this)
  have HY := Lib.hid regget_zero
  have hzv := zero_reg
  have hs0 := rcells_size R0
  go_enter Try.func9, Try.ntmps9
  go_wp2_with fail
  rw [Ra_lit]
  refine (HP.out _).mono ?_
  rintro e w1 ⟨rfl, b1⟩
  go_wp2_with fail
  refine (HG.out _).mono ?_
  rintro e w2 ⟨rfl, b2⟩
  have B2 := b1.trans (b2.mono b1.size)
  obtain ⟨w3, HW3, HA3, b3⟩ := stored_reg w2 Ra
  have B3 := B2.trans (b3.mono B2.size)
  clear b1 b2 b3 B2 HP HG hs0
  go_upto_region 3 with (refine wpList_store_row rfl _ _ _ rfl w2.heap.size (rcells Ra) rfl rfl 27 _ (heap_alloc_new _ _) (by rw [rcells_size]; kernel_rfl) (by rw [rcells_size, rcells_size]) (rcells_one _) ?_)
  rw [HW3.out]
  clear HW3
  generalize w2.heap.size = gx at *
  go_wp2_with fail
  refine (HZ.out _).mono ?_
  rintro e w4 ⟨rfl, b4⟩
  go_wp2_with fail
  refine (HY.out _).mono ?_
  rintro e w5 ⟨rfl, b5⟩
  have b45 := b4.trans (b5.mono b4.size)
  have HA5 := HA3.below b45 HA3.lt
  have B5 := B3.trans (b45.mono B3.size)
  obtain ⟨w6, HW6, _, b6⟩ := stored_reg w5 R0
  have HA6 := HA5.below b6 HA5.lt
  have B6 := B5.trans (b6.mono B5.size)
  clear b4 b5 b45 b6 HA3 HA5 B3 B5 HZ HY
  go_upto_region 4 with (refine wpList_store_row rfl _ _ _ rfl w5.heap.size (rcells R0) rfl rfl 27 _ (heap_alloc_new _ _) (by rw [rcells_size]; kernel_rfl) rfl (rcells_one _) ?_)
  rw [HW6.out]
  clear HW6
  have c64 : w6.cell? ⟨gx, 64, none⟩ = some (.int .i64 7) := HA6.cell 64 (by omega)
  have c65 : w6.cell? ⟨gx, 65, none⟩ = some (.int .i64 258) := HA6.cell 65 (by omega)
  have c69 : w6.cell? ⟨gx, 69, none⟩ = some (.int .i64 4) := HA6.cell 69 (by omega)
  have c70 : w6.cell? ⟨gx, 70, none⟩ = some (.int .i64 2) := HA6.cell 70 (by omega)
  have hsA := sA_size
  go_wp2
  go_ret
  exact ⟨rfl, B6⟩
end Go.Proofs.Ytghnhflomeifmaa
