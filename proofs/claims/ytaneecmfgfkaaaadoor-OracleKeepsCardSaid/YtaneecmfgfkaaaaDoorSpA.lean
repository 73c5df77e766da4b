/- What the row's list gives; digests by value opened (seats that sum). -/
import Derived.Test.YtaneecmfgfkaaaaDoorShI
import Derived.Test.YtaneecmfgfkaaaaDoorRows
import Derived.OpenShut
import Derived.ChangeArms
import Derived.Lib.LaidTab
import Derived.Stop.LaidErr
namespace Go.Proofs.YtaneecmfgfkaaaaDoor
open Go.ChangeShapes Go.WideShapes Go.Deep Go.RowKit
set_option linter.unusedVariables false
set_option linter.unusedSimpArgs false
def rowB (f : Nat → Int) (n : Nat) : List Value := (List.range n).map fun i => .int .u8 (f i)
theorem run_eql_rowb {P : Program} {t e : TypeId} {n m : Nat} (f g : Nat → Int) (ht : P.underlying t = some (.array n e)) (he : P.underlying e = some (.int .u8)) (hsz : ∀ w, (sizeOf e).run P w = .ok 1 w) (hm : n = m) (w : World) :
    (binOp .eql t (.agg (rowB f m).toArray) (.agg (rowB g m).toArray)).run P w = .ok (.bool ((List.range m).all fun i => f i == g i)) w := by
  subst hm
  rw [run_eql_struct, show (10000 : Nat) = 9998 + 2 from rfl, List.range_eq_range', Op.equalIn]
  simp only [Sem.run_bind, run_underlying ht, Result.andThen_ok, hsz, Std.Legacy.Range.forIn_eq_forIn_range', Std.Legacy.Range.size, Nat.sub_zero, Nat.add_sub_cancel, Nat.div_one]
  have hl : ∀ i ∈ List.range' 0 n 1, i < n := fun i hi => by simpa using (List.mem_range'_1.1 hi).2
  generalize List.range' 0 n 1 = l at hl ⊢
  induction l with
  | nil => simp
  | cons i l ih =>
    have hi : i < n := hl i (by simp)
    have px : ∀ h : Nat → Int, (part e (rowB h n).toArray (i * 1)).run P w = .ok (.int .u8 (h i)) w := fun h => by
      simp [part, isAgg, run_underlying he, rowB, hi]
    have pe : (Op.equalIn (9998 + 1) e (.int .u8 (f i)) (.int .u8 (g i))).run P w = .ok (f i == g i) w := run_equalIn_int w 9998 e .u8 .u8 _ _ he
    simp only [List.forIn_cons, Sem.run_bind, px, pe, Result.andThen_ok, List.all_cons]
    cases hb : (f i == g i)
    · simp
    · simp only [Bool.not_true, Bool.false_eq_true, if_false, Sem.run_pure, Result.andThen_ok, Bool.true_and]
      exact ih fun j hj => hl j (by simp [hj])
theorem bv_row (l : List UInt8) : bv l = rowB (fun i => ((bAt l i).toNat : Int)) l.length := by
  unfold bv rowB
  apply List.ext_getElem?
  intro i
  by_cases h : i < l.length
  · rw [List.getElem?_map, List.getElem?_map, List.getElem?_range h, List.getElem?_eq_getElem h]
    simp only [Option.map_some, bAt, List.getElem?_eq_getElem h]
    rfl
  · rw [List.getElem?_eq_none (by simpa using h), List.getElem?_eq_none (by simpa using h)]
theorem size_b : ∀ w, (sizeOf 5).run Tryd.prog w = .ok 1 w := fun w => by kernel_rfl
theorem eql_dig (l : List UInt8) (hl : l.length = 32) (w : World) : (binOp .eql 34 (.agg (digA l)) (.agg (digA l))).run Tryd.prog w = .ok (.bool true) w := by
  unfold digA
  rw [bv_row, run_eql_rowb _ _ Tryd.underlying34 Tryd.underlying5 size_b hl.symm w]
  simp
theorem layV_len (v : V8) : (layV v).length = 32 := by rw [← lb_all]; simp
theorem sumL_len (l : List UInt8) : (sumL l).length = 32 := layV_len _
section
theorem gl_of {W : World} (h : laidMetH Tryd.prog [("cellaret/sha.first", Rows.laid_cellaret_sha_first), ("cellaret/sha.constants", Rows.laid_cellaret_sha_constants)] W) : Gl W := by
  have t1 : Lib.TabIs Tryd.prog W "cellaret/sha.first" .u32 (flist.map fun x => (x.toNat : Int)) :=
    Lib.tabIs_of_head (rest := [("cellaret/sha.constants", Rows.laid_cellaret_sha_constants)]) (g := 0) (t := 73) (by kernel_rfl) (by kernel_rfl) Tryd.underlying73 Tryd.underlying72 (by kernel_rfl) (by kernel_rfl) h
  have t2 : Lib.TabIs Tryd.prog W "cellaret/sha.constants" .u32 (klist.map fun x => (x.toNat : Int)) :=
    Lib.tabIs_of_head (rest := []) (g := 1) (t := 106) (by kernel_rfl) (by kernel_rfl) Tryd.underlying106 Tryd.underlying72 (by kernel_rfl) (by kernel_rfl) (laidMet.tail h)
  have g1 : Tryd.prog.globalNamed "cellaret/sha.first" = some 0 := by kernel_rfl
  have g2 : Tryd.prog.globalNamed "cellaret/sha.constants" = some 1 := by kernel_rfl
  have c1 := t1.cell g1
  have c2 := t2.cell g2
  have r1 : W.rangeAt 0 0 (vL v0) := fun j v hv => by
    have hj : j < 8 := (List.getElem?_eq_some_iff.1 hv).1
    rw [Nat.zero_add, c1 j hj]
    rcases (show j = 0 ∨ j = 1 ∨ j = 2 ∨ j = 3 ∨ j = 4 ∨ j = 5 ∨ j = 6 ∨ j = 7 by omega) with rfl | rfl | rfl | rfl | rfl | rfl | rfl | rfl <;> exact hv
  have r2 : W.rangeAt 1 0 kL := fun j v hv => by
    have hj : j < 64 := (List.getElem?_eq_some_iff.1 hv).1
    rw [Nat.zero_add, c2 j (by rw [List.length_map]; exact hj), ← hv]
    unfold kL
    have hk : j < klist.length := hj
    rw [List.getElem?_map, List.getElem?_eq_getElem hk, List.getD_eq_getElem?_getD, List.getElem?_map, List.getElem?_eq_getElem hk]
    rfl
  exact ⟨r1, r2, block_lt_of_cell (c1 0 (by decide)), block_lt_of_cell (c2 0 (by decide))⟩
variable {H : Type} {enc : TypeId × Value → H} {P : Program} {w : World}
theorem arr_ints {t e : TypeId} {n fuel : Nat} {k : IntKind} {cs : List Value} {x : DataW H × List MemPlace} (ht : P.underlying t = some (.array n e)) (he : P.underlying e = some (.int k)) (hc : P.cellsOf e = 1)
    (h : DataW.trod enc P w 0 (fun _ => true) true fuel t cs = some x) : ∀ j, j < n → ∃ z, cs[j]? = some (.int k z) ∧ (Lit.int k z).wf = true := by
  obtain ⟨xs, m, _, _, _, hxl, hi⟩ := DataW.trod_array ht h
  intro j hj
  have h1 := hi j hj
  rw [hc, Nat.mul_one, List.getElem?_eq_getElem (by omega)] at h1
  obtain ⟨z, hz, _, hw⟩ := DataW.trod_int he h1
  refine ⟨z, ?_, hw⟩
  have := congrArg (fun l => l[0]?) hz
  simpa [List.getElem?_take, List.getElem?_drop] using this
theorem okWide_array' {t e : TypeId} {n : Nat} {r : Reach} {base : Nat} {v : Value} (ht : P.underlying t = some (.array n e)) (h : Value.okWide P w r base t v) : ∃ cs, v = .agg cs ∧ cs.size = P.cellsOf t := by
  simp only [Value.okWide, ht] at h
  obtain ⟨cs, h1, h2, _⟩ := h
  exact ⟨cs, h1, h2⟩
theorem u8_wf {z : Int} (h : (Lit.int .u8 z).wf = true) : ((UInt8.ofNat z.toNat).toNat : Int) = z := by
  have h2 : IntKind.u8.min ≤ z ∧ z ≤ IntKind.u8.max := by simpa [Lit.wf] using h
  rw [show IntKind.u8.min = 0 from by decide, show IntKind.u8.max = 255 from by decide] at h2
  obtain ⟨h3, h4⟩ := h2
  rw [UInt8.toNat_ofNat']
  omega
theorem u32_wf {z : Int} (h : (Lit.int .u32 z).wf = true) : ((UInt32.ofNat z.toNat).toNat : Int) = z := by
  have h2 : IntKind.u32.min ≤ z ∧ z ≤ IntKind.u32.max := by simpa [Lit.wf] using h
  rw [show IntKind.u32.min = 0 from by decide, show IntKind.u32.max = 4294967295 from by decide] at h2
  obtain ⟨h3, h4⟩ := h2
  rw [UInt32.toNat_ofNat']
  omega
set_option maxRecDepth 100000 in
theorem open_dig {r : Reach} {b0 : Nat} {v : Value} {d : DataW H} {p : List MemPlace} (hok : Value.okWide Tryd.prog w r b0 34 v) (h : DataW.Trod enc Tryd.prog w 0 (fun _ => true) true 34 v d p) : ∃ l : List UInt8, l.length = 32 ∧ v = .agg (digA l) := by
  obtain ⟨cs, rfl, hsz⟩ := okWide_array' Tryd.underlying34 hok
  obtain ⟨l⟩ := cs
  have hl : l.length = 32 := hsz.trans (by kernel_rfl)
  obtain ⟨fuel, hf⟩ := h
  have e0 : (Value.agg ⟨l⟩).cells.toList = l := by simp [Value.cells]
  rw [e0] at hf
  have hz := arr_ints Tryd.underlying34 Tryd.underlying5 (by kernel_rfl) hf
  refine ⟨l.map fun v => match v with | .int _ z => UInt8.ofNat z.toNat | _ => 0, by simpa using hl, ?_⟩
  unfold digA bv
  congr 1
  apply Array.ext_getElem?
  intro j
  rw [List.getElem?_toArray, List.getElem?_toArray, List.map_map]
  by_cases hj : j < 32
  · obtain ⟨z, h1, h2⟩ := hz j hj
    rw [List.getElem?_map, h1]
    simp only [Option.map_some, Function.comp, u8_wf h2]
  · rw [List.getElem?_eq_none (by omega), List.getElem?_eq_none (by rw [List.length_map]; omega)]
set_option maxRecDepth 100000 in
theorem open_w8 {r : Reach} {b0 : Nat} {v : Value} {d : DataW H} {p : List MemPlace} (hok : Value.okWide Tryd.prog w r b0 73 v) (h : DataW.Trod enc Tryd.prog w 0 (fun _ => true) true 73 v d p) : ∃ V : V8, v = .agg (vL V).toArray := by
  obtain ⟨cs, rfl, hsz⟩ := okWide_array' Tryd.underlying73 hok
  obtain ⟨l⟩ := cs
  have hl : l.length = 8 := hsz.trans (by kernel_rfl)
  obtain ⟨fuel, hf⟩ := h
  have e0 : (Value.agg ⟨l⟩).cells.toList = l := by simp [Value.cells]
  rw [e0] at hf
  have hz := arr_ints Tryd.underlying73 Tryd.underlying72 (by kernel_rfl) hf
  let f : Nat → UInt32 := fun j => match l[j]? with | some (.int _ z) => UInt32.ofNat z.toNat | _ => 0
  refine ⟨⟨f 0, f 1, f 2, f 3, f 4, f 5, f 6, f 7⟩, ?_⟩
  congr 1
  apply Array.ext_getElem?
  intro j
  rw [List.getElem?_toArray, List.getElem?_toArray]
  by_cases hj : j < 8
  · obtain ⟨z, h1, h2⟩ := hz j hj
    have h3 : f j = UInt32.ofNat z.toNat := by simp only [f, h1]
    have h4 : some (Value.int .u32 z) = some (wv (f j)) := by rw [h3]; unfold wv; rw [u32_wf h2]
    rw [h1, h4]
    rcases (show j = 0 ∨ j = 1 ∨ j = 2 ∨ j = 3 ∨ j = 4 ∨ j = 5 ∨ j = 6 ∨ j = 7 by omega) with rfl | rfl | rfl | rfl | rfl | rfl | rfl | rfl <;> rfl
  · rw [List.getElem?_eq_none (by omega), List.getElem?_eq_none (by rw [vL_len]; omega)]
end
end Go.Proofs.YtaneecmfgfkaaaaDoor
