/- sha.Work. -/
import Derived.Test.YtndhegdhkoileaaDoorSiF
import Derived.Laws.ResultCell
namespace Go.Proofs.YtndhegdhkoileaaDoor
open Go.RowKit Go.Deep
set_option linter.unusedVariables false
set_option linter.unusedSimpArgs false
theorem wpList_load_arr_g {P : Program} {ops : Array Oper} {rest : List Oper} {o : Oper} {a : Act} {w : World} {Q : Exit → Act → World → Prop} (hw : Region.wanted o (yielded ops a.tmps) = true) (ty : TypeId) (x : Operand) (ho : o.op = .load ty x)
    (g : Nat) (hx : a.eval x = .pointer (some ⟨g, 0, none⟩)) (t : TypeId) (cs : Array Value) (fr : Nat × Nat) (d : TypeDesc) (hg : w.heap[g]? = some (.cells cs t fr))
    (hu : P.underlying ty = some d) (hd : (match d with | .struct _ | .array _ _ => true | _ => false) = true) (hi : (P.info? ty).map (·.size) = some cs.size)
    (h : wpList P ops Q rest (a.put o.dst (.agg cs)) w) : wpList P ops Q (o :: rest) a w := by
  unfold wpList
  rw [if_pos hw]
  exact .inl (wp_load_row ty x ho g hx t cs fr d hg hu hd hi h)
/-- A block holds an array whole. -/
def LoadedA (P : Program) (ty : TypeId) (w : World) (g : Nat) (cs : Array Value) : Prop := ∃ t fr n e, w.heap[g]? = some (.cells cs t fr) ∧ P.underlying ty = some (.array n e) ∧ (P.info? ty).map (·.size) = some cs.size
theorem wpList_load_arr_i {P : Program} {ops : Array Oper} {rest : List Oper} {o : Oper} {a : Act} {w : World} {Q : Exit → Act → World → Prop} {g : Nat} {cs : Array Value} (ty : TypeId) (x : Operand) (ho : o.op = .load ty x)
    (h2 : Region.wanted o (yielded ops a.tmps) = true ∧ a.eval x = .pointer (some ⟨g, 0, none⟩)) (hL : LoadedA P ty w g cs)
    (h : wpList P ops Q rest (a.put o.dst (.agg cs)) w) : wpList P ops Q (o :: rest) a w := by
  obtain ⟨t, fr, n, e, hg, hu, hi⟩ := hL
  exact wpList_load_arr_g h2.1 ty x ho g h2.2 t cs fr (.array n e) hg hu rfl hi h
theorem results_ct {P : Program} {fn : Func} {p u : Tmp} {ty : TypeId} (h : fn.results = #[.cell p ty, .tmp u]) (tmps : Array Value) (w : World) (g : Nat) (t : TypeId) (cs : Array Value) (fr : Nat × Nat) (d : TypeDesc)
    (hp : tmps.getD p undef = .pointer (some ⟨g, 0, none⟩)) (hg : w.heap[g]? = some (.cells cs t fr))
    (hu : P.underlying ty = some d) (hd : (match d with | .struct _ | .array _ _ => true | _ => false) = true) (hi : (P.info? ty).map (·.size) = some cs.size) :
    (results fn tmps).run P w = .ok (.tuple #[.agg cs, tmps.getD u undef]) w := by
  have hp' : tmps[p]?.getD undef = .pointer (some ⟨g, 0, none⟩) := by simpa using hp
  rw [results_cell_tmp h]
  simp [hp', asAddr, run_loadVar_row w g t ty cs fr d hg hu hd hi, Result.andThen]
def z8 : Array Value := #[.int .u32 0, .int .u32 0, .int .u32 0, .int .u32 0, .int .u32 0, .int .u32 0, .int .u32 0, .int .u32 0]
theorem z8_one : z8.all (·.oneCell') = true := by simp [z8, Value.oneCell']
theorem vL_size (v : V8) : (vL v).toArray.size = 8 := rfl
theorem z8_size : z8.size = 8 := rfl
theorem vL_one (v : V8) : (vL v).toArray.all (·.oneCell') = true := by simp [vL, Value.oneCell']
theorem two_w8 (w : World) (V : Array Value) : ∃ w1, Hid ((w.alloc (.cells V 29)).alloc (.cells z8 29) = w1) ∧ w1.heap[w.heap.size]? = some (.cells V 29 (0, 0)) ∧ w1.heap[w.heap.size + 1]? = some (.cells z8 29 (0, 0)) ∧ Below w.heap.size w w1 ∧ w.heap.size + 2 ≤ w1.heap.size := by
  have b1 := (Below.refl w.heap.size w).alloc (Nat.le_refl _) (.cells V 29)
  have h1 := heap_alloc_new w (.cells V 29)
  generalize hw1 : w.alloc (.cells V 29) = w1 at *
  have s1 : w1.heap.size = w.heap.size + 1 := by rw [← hw1]; simp
  have b2 := (Below.refl w1.heap.size w1).alloc (Nat.le_refl _) (.cells z8 29)
  have h2 := heap_alloc_new w1 (.cells z8 29)
  refine ⟨_, Lib.hid rfl, ?_, ?_, b1.trans (b2.mono (by omega)), by simp [s1]⟩
  · rw [b2.block _ (by omega)]; exact h1
  · rw [← s1]; exact h2
theorem zero_z8 : ∀ w, (zeroValue 29).run Tryd.prog w = .ok (.agg z8) w := zero_w8
theorem build_z8 : ∀ w, (Instr.build 29 #[]).run Tryd.prog w = .ok (.agg z8) w := fun w => by kernel_rfl
set_option maxRecDepth 100000 in
set_option maxHeartbeats 1000000 in
theorem work_bad (V : V8) (s : ByteArray) (w : World) (hs : s.size ≠ 64) : Calls Tryd.prog 13 #[.agg (vL V).toArray, .string s] w fun e w' => e = .returned (.tuple #[.agg z8, .int .i64 6]) ∧ Below w.heap.size w w' := by
  have hz := zero_z8
  have ht : ((s.size : Int) != 64) = true := by rw [bne_iff_ne]; omega
  generalize (vL V).toArray = VA at *
  obtain ⟨w1, HE, hV, hR, B1, hs1⟩ := two_w8 w VA
  go_enter Tryd.func13, Tryd.ntmps13
  go_upto_region 1 with fail
  rw [HE.out]
  clear HE
  go_wp2_with (refine wpList_store_row rfl _ _ _ rfl (w.heap.size + 1) z8 rfl rfl 29 _ hR (by kernel_rfl) rfl z8_one ?_)
  refine bodyPost_ret_by (results_ct rfl _ _ (w.heap.size + 1) 29 z8 (0, 0) _ rfl (setRow_heap _ _ _ z8 29 (0, 0) hR) Tryd.underlying29 rfl (by kernel_rfl)) rfl ⟨rfl, ?_⟩
  exact below_setRow B1 (by omega) _
theorem work_one (V : V8) (l : List UInt8) (h : l.length = 64) : work V l (l.length / 64) = blk V l := by
  rw [h]
  show work (blk V (l.take 64)) (l.drop 64) 0 = _
  rw [work_zero, List.take_of_length_le (by omega)]
attribute [local irreducible] work blk klist kL
set_option maxRecDepth 100000 in
set_option maxHeartbeats 2000000 in
theorem work_ok (V : V8) (s : ByteArray) (w : World) (hG : Gl w) (hs : s.size = 64) : Calls Tryd.prog 13 #[.agg (vL V).toArray, .string s] w fun e w' => e = .returned (.tuple #[.agg (vL (blk V s.data.toList)).toArray, .int .i64 0]) ∧ Below w.heap.size w w' := by
  have hz := zero_z8
  have ht : ((s.size : Int) != 64) = false := by rw [bne_eq_false_iff_eq]; omega
  have hl : s.data.toList.length = 64 := by rw [← Lib.size_eq]; exact hs
  obtain ⟨w1, HE, hV, hR, B1, hs1⟩ := two_w8 w (vL V).toArray
  have hw1 := words_of hV
  generalize (vL V).toArray = VA at *
  have G1 := hG.below B1
  obtain ⟨cap, w5, HC, hc1, hc2, hrg, b5, hs5⟩ := conv_sb s w1 (by omega)
  have hc := HC.out
  have G5 := G1.below b5
  have hR5 := (b5.block _ (by omega)).trans hR
  have B5 := B1.trans (b5.mono B1.size)
  have W5 : WordsAt w5 w.heap.size 0 V := ⟨range_below hw1.r b5 hw1.lt, there_below hw1.t b5 hw1.lt, by omega⟩
  have HWA := Lib.hid (workAll_any s.data.toList V w.heap.size 0 (some ⟨w1.heap.size, 0, none⟩) cap w5 G5.k (by have := hG.sk; omega) G5.sk W5 (fun _ => ⟨w1.heap.size, 0, rfl, by omega, hrg⟩) (fun g o s' e => by cases e; omega) (by rw [hl, ← hs]; exact hc1) hc2)
  have HW1 := Lib.hid (work_one V s.data.toList hl)
  rw [hl] at HWA
  rw [hl] at HW1
  rw [hs] at hc
  clear HC hw1 W5 hrg hV G1 B1 b5 hR G5
  go_enter Tryd.func13, Tryd.ntmps13
  go_upto_region 1 with fail
  rw [HE.out]
  clear HE
  go_wp2_with fail
  refine HWA.out.mono ?_
  rintro e w6 ⟨⟨a6, c6, rfl, _⟩, W6, g6, _⟩
  have hR6 : w6.heap[w.heap.size + 1]? = some (.cells z8 29 (0, 0)) := (g6.block (w.heap.size + 1) (by omega) (fun e => by injection e with e; omega)).trans hR5
  have B6 := B5.grown g6 B5.size (fun k e => by cases e; exact Nat.le_refl _)
  rw [HW1.out] at W6
  clear HWA hR5 B5 g6 hc
  generalize hBK : blk V s.data.toList = BK at *
  have HBK := Lib.hid hBK
  clear hBK
  have rV := W6.r
  go_wp2_with (first | (refine wpList_load_mid rfl 29 _ rfl w.heap.size 0 rfl (vL BK) _ rV Tryd.underlying29 rfl (by kernel_rfl) ?_) | (refine wpList_store_row rfl _ _ _ rfl (w.heap.size + 1) (vL BK).toArray rfl rfl 29 _ hR6 (by rw [vL_size]; kernel_rfl) (by rw [vL_size, z8_size]) (vL_one _) ?_))
  refine bodyPost_ret_by (results_ct rfl _ _ (w.heap.size + 1) 29 (vL BK).toArray (0, 0) _ rfl (setRow_heap _ _ _ (vL BK).toArray 29 (0, 0) hR6) Tryd.underlying29 rfl (by rw [vL_size]; kernel_rfl)) rfl ⟨by rw [HBK.out]; rfl, ?_⟩
  exact below_setRow B6 (Nat.le_succ _) _
end Go.Proofs.YtndhegdhkoileaaDoor
