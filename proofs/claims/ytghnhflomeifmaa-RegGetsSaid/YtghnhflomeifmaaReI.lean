/- Contracts (cellaret): reg.Get. -/
import Derived.Test.YtghnhflomeifmaaReH
import Derived.Laws.ResultCell
namespace Go.Proofs.Ytghnhflomeifmaa
open Go.RowKit Go.Deep
set_option linter.unusedVariables false
set_option linter.unusedSimpArgs false
theorem wpList_load_row_g {P : Program} {ops : Array Oper} {rest : List Oper} {o : Oper} {a : Act} {w : World} {Q : Exit → Act → World → Prop} (hw : Region.wanted o (yielded ops a.tmps) = true) (ty : TypeId) (x : Operand) (ho : o.op = .load ty x)
    (g : Nat) (hx : a.eval x = .pointer (some ⟨g, 0, none⟩)) (t : TypeId) (cs : Array Value) (fr : Nat × Nat) (d : TypeDesc) (hg : w.heap[g]? = some (.cells cs t fr))
    (hu : P.underlying ty = some d) (hd : (match d with | .struct _ | .array _ _ => true | _ => false) = true) (hi : (P.info? ty).map (·.size) = some cs.size)
    (h : wpList P ops Q rest (a.put o.dst (.agg cs)) w) : wpList P ops Q (o :: rest) a w := by
  unfold wpList
  rw [if_pos hw]
  exact .inl (wp_load_row ty x ho g hx t cs fr d hg hu hd hi h)
def Loaded (P : Program) (ty : TypeId) (w : World) (g : Nat) (cs : Array Value) : Prop := ∃ t fr fs, w.heap[g]? = some (.cells cs t fr) ∧ P.underlying ty = some (.struct fs) ∧ (P.info? ty).map (·.size) = some cs.size
theorem wpList_load_row_i {P : Program} {ops : Array Oper} {rest : List Oper} {o : Oper} {a : Act} {w : World} {Q : Exit → Act → World → Prop} {g : Nat} {cs : Array Value} (ty : TypeId) (x : Operand) (ho : o.op = .load ty x)
    (h2 : Region.wanted o (yielded ops a.tmps) = true ∧ a.eval x = .pointer (some ⟨g, 0, none⟩)) (hL : Loaded P ty w g cs)
    (h : wpList P ops Q rest (a.put o.dst (.agg cs)) w) : wpList P ops Q (o :: rest) a w := by
  obtain ⟨t, fr, fs, hg, hu, hi⟩ := hL
  exact wpList_load_row_g h2.1 ty x ho g h2.2 t cs fr (.struct fs) hg hu rfl hi h
theorem loaded_reg {w : World} {g : Nat} {R : Rg} (h : RegAt w g R) : Loaded Try.prog 27 w g (rcells R) := ⟨_, _, _, h, Try.underlying27, by rw [rcells_size]; kernel_rfl⟩
theorem results_ct {P : Program} {fn : Func} {p u : Tmp} {ty : TypeId} (h : fn.results = #[.cell p ty, .tmp u]) (tmps : Array Value) (w : World) (g : Nat) (t : TypeId) (cs : Array Value) (fr : Nat × Nat) (d : TypeDesc)
    (hp : tmps.getD p undef = .pointer (some ⟨g, 0, none⟩)) (hg : w.heap[g]? = some (.cells cs t fr))
    (hu : P.underlying ty = some d) (hd : (match d with | .struct _ | .array _ _ => true | _ => false) = true) (hi : (P.info? ty).map (·.size) = some cs.size) :
    (results fn tmps).run P w = .ok (.tuple #[.agg cs, tmps.getD u undef]) w := by
  have hp' : tmps[p]?.getD undef = .pointer (some ⟨g, 0, none⟩) := by simpa using hp
  rw [results_cell_tmp h]
  simp [hp', asAddr, run_loadVar_row w g t ty cs fr d hg hu hd hi, Result.andThen]
def zz96 : ByteArray := ⟨(List.replicate 96 (0 : UInt8)).toArray⟩
theorem make96 (w : World) : (Instr.makeSlice 41 (.int .i64 96) (.int .i64 96)).run Try.prog w = .ok (.slice (some ⟨w.heap.size, 0, none⟩) 96 96) (w.alloc (.cells (madeCells #[.int .u8 0] 96) 5)) :=
  run_make_row' (P := Try.prog) 41 5 (.int .u8 0) 1 Try.underlying41 Try.info_u8 rfl .i64 .i64 96 (by omega) (by omega) (w := w)
theorem conv96 (w : World) : (convert 41 9 (.slice (some ⟨w.heap.size, 0, none⟩) 96 96)).run Try.prog (w.alloc (.cells (madeCells #[.int .u8 0] 96) 5)) = .ok (.string zz96) (w.alloc (.cells (madeCells #[.int .u8 0] 96) 5)) :=
  conv_row (P := Try.prog) (cap := 96) (W := 96) (dst := 9) (f := fun _ => 0) Try.underlying41 Try.underlying5 Try.underlying9 (World.rowIs_made w (.int .u8 0) 96 5) (Nat.le_refl _)
theorem zz96_size : zz96.size = 96 := by kernel_rfl
attribute [local irreducible] num pos by_ RA RB RD rcells zz96
set_option maxRecDepth 100000 in
set_option maxHeartbeats 800000 in
theorem regget_len (s : ByteArray) (w : World) (h : s.size ≠ 96) : Calls Try.prog 11 #[.string s] w fun e w' => e = .returned (.tuple #[.agg (rcells R0), .int .i64 6]) ∧ Below w.heap.size w w' := by
  obtain ⟨w0, HE, HR0, B0⟩ := box_reg w R0
  have hG : w0.heap[w.heap.size]? = some (.cells (rcells R0) 27 (0, 0)) := HR0
  have hzv := zero_reg
  have ht : ((s.size : Int) != 96) = true := by simp; omega
  go_enter Try.func11, Try.ntmps11
  go_upto_region 1 with fail
  rw [HE.out]
  clear HE
  go_wp2_with (refine wpList_store_row rfl _ _ _ rfl w.heap.size (rcells R0) rfl rfl 27 _ hG (by rw [rcells_size]; kernel_rfl) (by rw [rcells_size]) (rcells_one _) ?_)
  refine bodyPost_ret_by (results_ct rfl _ _ w.heap.size 27 (rcells R0) (0, 0) _ rfl (setRow_heap _ _ _ (rcells R0) 27 (0, 0) hG) Try.underlying27 rfl (by rw [rcells_size]; kernel_rfl)) rfl ⟨rfl, ?_⟩
  exact below_setRow B0 (Nat.le_refl _) _
set_option maxRecDepth 100000 in
set_option maxHeartbeats 800000 in
theorem regget_zero (w : World) : Calls Try.prog 11 #[.string zz96] w fun e w' => e = .returned (.tuple #[.agg (rcells R0), .int .i64 19]) ∧ Below w.heap.size w w' := by
  obtain ⟨w0, HE, HR0, B0⟩ := box_reg w R0
  have b1 : Below w0.heap.size w0 (w0.alloc (.cells (madeCells #[.int .u8 0] 96) 5)) := (Below.refl _ _).alloc (Nat.le_refl _) _
  have HR1 := HR0.below b1 HR0.lt
  have hG : (w0.alloc (.cells (madeCells #[.int .u8 0] 96) 5)).heap[w.heap.size]? = some (.cells (rcells R0) 27 (0, 0)) := HR1
  have B1 := B0.trans (b1.mono B0.size)
  have hzv := zero_reg
  have hmk := make96
  have hcv := conv96
  have hz := zz96_size
  have ht : ((zz96.size : Int) != 96) = false := by rw [hz]; rfl
  go_enter Try.func11, Try.ntmps11
  go_upto_region 1 with fail
  rw [HE.out]
  clear HE
  go_wp2_with (refine wpList_store_row rfl _ _ _ rfl w.heap.size (rcells R0) rfl rfl 27 _ hG (by rw [rcells_size]; kernel_rfl) (by rw [rcells_size]) (rcells_one _) ?_)
  refine bodyPost_ret_by (results_ct rfl _ _ w.heap.size 27 (rcells R0) (0, 0) _ rfl (setRow_heap _ _ _ (rcells R0) 27 (0, 0) hG) Try.underlying27 rfl (by rw [rcells_size]; kernel_rfl)) rfl ⟨rfl, ?_⟩
  exact below_setRow B1 (Nat.le_refl _) _
set_option maxRecDepth 100000 in
set_option maxHeartbeats 1500000 in
theorem regget_walk (s : ByteArray) (w : World) (h96 : s.size = 96) (hnz : Hid ((s.toList == zz96.toList) = false)) (g : Bool) (hC : Hid (∀ w, Calls Try.prog 7 #[.agg (rcells (RD s))] w fun e w' => e = .returned (.int .i64 (if g = true then 0 else 2)) ∧ Below w.heap.size w w')) (q : Bool) (hq : Hid (((layS (RD s)).toList == s.toList) = q)) :
    Calls Try.prog 11 #[.string s] w fun e w' => e = .returned (.tuple #[.agg (rcells (if (g && q) = true then RD s else R0)), .int .i64 (if (g && q) = true then 0 else 6)]) ∧ Below w.heap.size w w' := by
  have HRD := Lib.hid (fun w => regread_any s w h96)
  have HL := Lib.hid (fun w => lay_reg (RD s) w)
  generalize RD s = X at *
  generalize layS X = L at *
  obtain ⟨w0, HE, HR0, B0⟩ := box_reg w R0
  have b1 : Below w0.heap.size w0 (w0.alloc (.cells (madeCells #[.int .u8 0] 96) 5)) := (Below.refl _ _).alloc (Nat.le_refl _) _
  have HR1 := HR0.below b1 HR0.lt
  have B1 := B0.trans (b1.mono B0.size)
  have hzv := zero_reg
  have hmk := make96
  have hcv := conv96
  have ht : ((s.size : Int) != 96) = false := by rw [h96]; rfl
  have hz := hnz.out
  have l0 := HR0.lt
  clear hnz h96 HR0 B0
  go_enter Try.func11, Try.ntmps11
  go_upto_region 1 with fail
  rw [HE.out]
  clear HE
  go_wp2_with fail
  refine (HRD.out _).mono ?_
  rintro e w2 ⟨rfl, b2⟩
  have HR2 := HR1.below b2 HR1.lt
  have B2 := B1.trans (b2.mono B1.size)
  obtain ⟨w3, HW3, HX3, b3⟩ : ∃ w3, Hid ((w2.alloc (.cells (rcells R0) 27)).setRow w2.heap.size (rcells X) = w3) ∧ RegAt w3 w2.heap.size X ∧ Below w2.heap.size w2 w3 :=
    ⟨_, Lib.hid rfl, setRow_heap _ _ _ (rcells X) 27 (0, 0) (heap_alloc_new _ _), below_setRow ((Below.refl _ _).alloc (Nat.le_refl _) _) (Nat.le_refl _) _⟩
  have HR3 := HR2.below b3 HR2.lt
  have B3 := B2.trans (b3.mono B2.size)
  have hlt : w.heap.size < w2.heap.size := HR2.lt
  clear HR1 HR2 b1 b2 b3 B1 B2 HRD
  go_upto_region 6 with (refine wpList_store_row rfl _ _ _ rfl w2.heap.size (rcells X) rfl rfl 27 _ (heap_alloc_new _ _) (by rw [rcells_size]; kernel_rfl) (by rw [rcells_size, rcells_size]) (rcells_one _) ?_)
  rw [HW3.out]
  clear HW3
  generalize w2.heap.size = gx at *
  have HX := Lib.hid HX3
  have HR := Lib.hid HR3
  have L3 := loaded_reg HX3
  have lx := HX3.lt
  clear ht hz hmk hcv HX3 HR3
  cases g
  · have HC : Hid (∀ w, Calls Try.prog 7 #[.agg (rcells X)] w fun e w' => e = .returned (.int .i64 2) ∧ Below w.heap.size w w') := Lib.hid hC.out
    clear hC
    go_wp2_with ((with_reducible refine wpList_load_row_i (g := gx) (cs := rcells X) 27 _ rfl ?_ ?_ ?_); exact ⟨rfl, rfl⟩; assumption)
    refine (HC.out _).mono ?_
    rintro e w4 ⟨rfl, b4⟩
    have hG : w4.heap[w.heap.size]? = some (.cells (rcells R0) 27 (0, 0)) := HR.out.below b4 HR.out.lt
    have B4 := B3.trans (b4.mono B3.size)
    have L4 := loaded_reg (HX.out.below b4 lx)
    clear L3 B3 b4
    go_wp2_with (refine wpList_store_row rfl _ _ _ rfl w.heap.size (rcells R0) rfl rfl 27 _ hG (by rw [rcells_size]; kernel_rfl) (by rw [rcells_size]) (rcells_one _) ?_)
    refine bodyPost_ret_by (results_ct rfl _ _ w.heap.size 27 (rcells R0) (0, 0) _ rfl (setRow_heap _ _ _ (rcells R0) 27 (0, 0) hG) Try.underlying27 rfl (by rw [rcells_size]; kernel_rfl)) rfl ⟨rfl, ?_⟩
    exact below_setRow B4 (Nat.le_refl _) _
  · have HC : Hid (∀ w, Calls Try.prog 7 #[.agg (rcells X)] w fun e w' => e = .returned (.int .i64 0) ∧ Below w.heap.size w w') := Lib.hid hC.out
    clear hC
    go_wp2_with ((with_reducible refine wpList_load_row_i (g := gx) (cs := rcells X) 27 _ rfl ?_ ?_ ?_); exact ⟨rfl, rfl⟩; assumption)
    refine (HC.out _).mono ?_
    rintro e w4 ⟨rfl, b4⟩
    have HR4 := HR.out.below b4 HR.out.lt
    have HX4 := HX.out.below b4 lx
    have B4 := B3.trans (b4.mono B3.size)
    have L4 := loaded_reg HX4
    clear L3 B3 b4 HR HX HC
    have HRX := Lib.hid (And.intro HR4 HX4)
    clear HR4 HX4
    go_wp2_with ((with_reducible refine wpList_load_row_i (g := gx) (cs := rcells X) 27 _ rfl ?_ ?_ ?_); exact ⟨rfl, rfl⟩; assumption)
    refine (HL.out _).mono ?_
    rintro e w5 ⟨rfl, b5⟩
    have hG : w5.heap[w.heap.size]? = some (.cells (rcells R0) 27 (0, 0)) := HRX.out.1.below b5 HRX.out.1.lt
    have B5 := B4.trans (b5.mono B4.size)
    have L5 := loaded_reg (HRX.out.2.below b5 HRX.out.2.lt)
    have hq1 := hq.out
    clear L4 B4 b5 HRX hq HL
    cases q
    · have hq2 : (L.toList != s.toList) = true := by simp [bne, hq1]
      go_wp2_with (refine wpList_store_row rfl _ _ _ rfl w.heap.size (rcells R0) rfl rfl 27 _ hG (by rw [rcells_size]; kernel_rfl) (by rw [rcells_size]) (rcells_one _) ?_)
      refine bodyPost_ret_by (results_ct rfl _ _ w.heap.size 27 (rcells R0) (0, 0) _ rfl (setRow_heap _ _ _ (rcells R0) 27 (0, 0) hG) Try.underlying27 rfl (by rw [rcells_size]; kernel_rfl)) rfl ⟨rfl, ?_⟩
      exact below_setRow B5 (Nat.le_refl _) _
    · have hq2 : (L.toList != s.toList) = false := by simp [bne, hq1]
      go_wp2_with (first | (refine wpList_store_row rfl _ _ _ rfl w.heap.size (rcells X) rfl rfl 27 _ hG (by rw [rcells_size]; kernel_rfl) (by rw [rcells_size, rcells_size]) (rcells_one _) ?_) | ((with_reducible refine wpList_load_row_i (g := gx) (cs := rcells X) 27 _ rfl ?_ ?_ ?_); exact ⟨rfl, rfl⟩; assumption))
      refine bodyPost_ret_by (results_ct rfl _ _ w.heap.size 27 (rcells X) (0, 0) _ rfl (setRow_heap _ _ _ (rcells X) 27 (0, 0) hG) Try.underlying27 rfl (by rw [rcells_size]; kernel_rfl)) rfl ⟨rfl, ?_⟩
      exact below_setRow B5 (Nat.le_refl _) _
theorem regget_ok (s : ByteArray) (w : World) (h96 : s.size = 96) (hnz : Hid ((s.toList == zz96.toList) = false)) (h : Rt (RD s)) (hl : layS (RD s) = s) :
    Calls Try.prog 11 #[.string s] w fun e w' => e = .returned (.tuple #[.agg (rcells (RD s)), .int .i64 0]) ∧ Below w.heap.size w w' :=
  regget_walk s w h96 hnz true (Lib.hid fun w => check_yes (RD s) w h) true (Lib.hid (by rw [hl]; simp))
end Go.Proofs.Ytghnhflomeifmaa
