/- What the row's list gives; digests and words by value opened (layer 3); the law ShaHex. -/
import Derived.Test.YtndhegdhkoileaaDoorShO
import Derived.Test.YtndhegdhkoileaaDoorRows
import Derived.OpenShut
import Derived.ChangeArms
import Derived.Lib.LaidTab
import Derived.Stop.LaidErr
namespace Go.Proofs.YtndhegdhkoileaaDoor
open Go.ChangeShapes Go.WideShapes Go.Deep Go.RowKit
set_option linter.unusedVariables false
set_option linter.unusedSimpArgs false
section
theorem gl_of {W : World} (h : laidMetH Tryd.prog [("cellaret/sha.first", Rows.laid_cellaret_sha_first), ("cellaret/sha.constants", Rows.laid_cellaret_sha_constants)] W) : Gl W := by
  have t1 : Lib.TabIs Tryd.prog W "cellaret/sha.first" .u32 (flist.map fun x => (x.toNat : Int)) :=
    Lib.tabIs_of_head (rest := [("cellaret/sha.constants", Rows.laid_cellaret_sha_constants)]) (g := 0) (t := 29) (by kernel_rfl) (by kernel_rfl) Tryd.underlying29 Tryd.underlying28 (by kernel_rfl) (by kernel_rfl) h
  have t2 : Lib.TabIs Tryd.prog W "cellaret/sha.constants" .u32 (klist.map fun x => (x.toNat : Int)) :=
    Lib.tabIs_of_head (rest := []) (g := 1) (t := 61) (by kernel_rfl) (by kernel_rfl) Tryd.underlying61 Tryd.underlying28 (by kernel_rfl) (by kernel_rfl) (laidMet.tail h)
  have g1 : Tryd.prog.globalNamed "cellaret/sha.first" = some 0 := by kernel_rfl
  have g2 : Tryd.prog.globalNamed "cellaret/sha.constants" = some 1 := by kernel_rfl
  have c1 := t1.cell g1
  have c2 := t2.cell g2
  have r1 : W.rangeAt 0 0 (vL v0) := fun j v hv => by
    have hj : j < 8 := (List.getElem?_eq_some_iff.1 hv).1
    rw [Nat.zero_add, c1 j hj]
    rcases (show j = 0 ∨ j = 1 ∨ j = 2 ∨ j = 3 ∨ j = 4 ∨ j = 5 ∨ j = 6 ∨ j = 7 by omega) with rfl | rfl | rfl | rfl | rfl | rfl | rfl | rfl <;> exact hv
  have r2 : W.rangeAt 1 0 kL := fun j v hv => by
    have hj : j < 64 := (List.getElem?_eq_some_iff.1 hv).1
    rw [Nat.zero_add, c2 j (by rw [List.length_map]; exact hj), ← hv]
    unfold kL
    have hk : j < klist.length := hj
    rw [List.getElem?_map, List.getElem?_eq_getElem hk, List.getD_eq_getElem?_getD, List.getElem?_map, List.getElem?_eq_getElem hk]
    rfl
  exact ⟨r1, r2, block_lt_of_cell (c1 0 (by decide)), block_lt_of_cell (c2 0 (by decide))⟩
variable {H : Type} {enc : TypeId × Value → H} {P : Program} {w : World}
theorem arr_ints {t e : TypeId} {n fuel : Nat} {k : IntKind} {cs : List Value} {x : DataW H × List MemPlace} (ht : P.underlying t = some (.array n e)) (he : P.underlying e = some (.int k)) (hc : P.cellsOf e = 1)
    (h : DataW.trod enc P w 0 (fun _ => true) true fuel t cs = some x) : ∀ j, j < n → ∃ z, cs[j]? = some (.int k z) ∧ (Lit.int k z).wf = true := by
  obtain ⟨xs, m, _, _, _, hxl, hi⟩ := DataW.trod_array ht h
  intro j hj
  have h1 := hi j hj
  rw [hc, Nat.mul_one, List.getElem?_eq_getElem (by omega)] at h1
  obtain ⟨z, hz, _, hw⟩ := DataW.trod_int he h1
  refine ⟨z, ?_, hw⟩
  have := congrArg (fun l => l[0]?) hz
  simpa [List.getElem?_take, List.getElem?_drop] using this
theorem okWide_array' {t e : TypeId} {n : Nat} {r : Reach} {base : Nat} {v : Value} (ht : P.underlying t = some (.array n e)) (h : Value.okWide P w r base t v) : ∃ cs, v = .agg cs ∧ cs.size = P.cellsOf t := by
  simp only [Value.okWide, ht] at h
  obtain ⟨cs, h1, h2, _⟩ := h
  exact ⟨cs, h1, h2⟩
theorem u8_wf {z : Int} (h : (Lit.int .u8 z).wf = true) : ((UInt8.ofNat z.toNat).toNat : Int) = z := by
  have h2 : IntKind.u8.min ≤ z ∧ z ≤ IntKind.u8.max := by simpa [Lit.wf] using h
  rw [show IntKind.u8.min = 0 from by decide, show IntKind.u8.max = 255 from by decide] at h2
  obtain ⟨h3, h4⟩ := h2
  rw [UInt8.toNat_ofNat']
  omega
theorem u32_wf {z : Int} (h : (Lit.int .u32 z).wf = true) : ((UInt32.ofNat z.toNat).toNat : Int) = z := by
  have h2 : IntKind.u32.min ≤ z ∧ z ≤ IntKind.u32.max := by simpa [Lit.wf] using h
  rw [show IntKind.u32.min = 0 from by decide, show IntKind.u32.max = 4294967295 from by decide] at h2
  obtain ⟨h3, h4⟩ := h2
  rw [UInt32.toNat_ofNat']
  omega
theorem open_dig {r : Reach} {b0 : Nat} {v : Value} {d : DataW H} {p : List MemPlace} (hok : Value.okWide Tryd.prog w r b0 24 v) (h : DataW.Trod enc Tryd.prog w 0 (fun _ => true) true 24 v d p) : ∃ l : List UInt8, l.length = 32 ∧ v = .agg (digA l) := by
  obtain ⟨cs, rfl, hsz⟩ := okWide_array' Tryd.underlying24 hok
  obtain ⟨l⟩ := cs
  have hl : l.length = 32 := hsz.trans (by kernel_rfl)
  obtain ⟨fuel, hf⟩ := h
  have e0 : (Value.agg ⟨l⟩).cells.toList = l := by simp [Value.cells]
  rw [e0] at hf
  have hz := arr_ints Tryd.underlying24 Tryd.underlying5 (by kernel_rfl) hf
  refine ⟨l.map fun v => match v with | .int _ z => UInt8.ofNat z.toNat | _ => 0, by simpa using hl, ?_⟩
  unfold digA bv
  congr 1
  apply Array.ext_getElem?
  intro j
  rw [List.getElem?_toArray, List.getElem?_toArray, List.map_map]
  by_cases hj : j < 32
  · obtain ⟨z, h1, h2⟩ := hz j hj
    rw [List.getElem?_map, h1]
    simp only [Option.map_some, Function.comp, u8_wf h2]
  · rw [List.getElem?_eq_none (by omega), List.getElem?_eq_none (by rw [List.length_map]; omega)]
theorem open_w8 {r : Reach} {b0 : Nat} {v : Value} {d : DataW H} {p : List MemPlace} (hok : Value.okWide Tryd.prog w r b0 29 v) (h : DataW.Trod enc Tryd.prog w 0 (fun _ => true) true 29 v d p) : ∃ V : V8, v = .agg (vL V).toArray := by
  obtain ⟨cs, rfl, hsz⟩ := okWide_array' Tryd.underlying29 hok
  obtain ⟨l⟩ := cs
  have hl : l.length = 8 := hsz.trans (by kernel_rfl)
  obtain ⟨fuel, hf⟩ := h
  have e0 : (Value.agg ⟨l⟩).cells.toList = l := by simp [Value.cells]
  rw [e0] at hf
  have hz := arr_ints Tryd.underlying29 Tryd.underlying28 (by kernel_rfl) hf
  let f : Nat → UInt32 := fun j => match l[j]? with | some (.int _ z) => UInt32.ofNat z.toNat | _ => 0
  refine ⟨⟨f 0, f 1, f 2, f 3, f 4, f 5, f 6, f 7⟩, ?_⟩
  congr 1
  apply Array.ext_getElem?
  intro j
  rw [List.getElem?_toArray, List.getElem?_toArray]
  by_cases hj : j < 8
  · obtain ⟨z, h1, h2⟩ := hz j hj
    have h3 : f j = UInt32.ofNat z.toNat := by simp only [f, h1]
    have h4 : some (Value.int .u32 z) = some (wv (f j)) := by rw [h3]; unfold wv; rw [u32_wf h2]
    rw [h1, h4]
    rcases (show j = 0 ∨ j = 1 ∨ j = 2 ∨ j = 3 ∨ j = 4 ∨ j = 5 ∨ j = 6 ∨ j = 7 by omega) with rfl | rfl | rfl | rfl | rfl | rfl | rfl | rfl <;> rfl
  · rw [List.getElem?_eq_none (by omega), List.getElem?_eq_none (by rw [vL_len]; omega)]
end
/-! ### A nil hasher -/
set_option maxRecDepth 100000 in
set_option maxHeartbeats 1000000 in
theorem add_nil (s : ByteArray) (w : World) : Calls Tryd.prog 17 #[.pointer none, .string s] w fun e w' => e = .returned (.pointer none) ∧ w = w' := by
  go_enter Tryd.func17, Tryd.ntmps17
  go_wp2_with fail
  go_ret
  exact ⟨rfl, rfl⟩
attribute [local irreducible] work blk klist kL layV padL wv0 rst tailL sumL hexL digA
set_option maxRecDepth 100000 in
set_option maxHeartbeats 1000000 in
theorem digest_nil (w : World) (hG : Gl w) : Calls Tryd.prog 18 #[.pointer none] w fun e w' => e = .returned (.agg (digA (sumL []))) ∧ Below w.heap.size w w' := by
  have hz := zero_dig
  have HS := Lib.hid (fun w hw => sum_any ⟨#[]⟩ w (by decide) hw)
  have htr : sumL (⟨#[]⟩ : ByteArray).data.toList = sumL [] := rfl
  rw [htr] at HS
  obtain ⟨hsz, hone⟩ := dig_ok (sumV [])
  have hsl : layV (sumV []) = sumL [] := by with_unfolding_all rfl
  rw [hsl] at hsz hone
  clear hsl htr
  generalize hDG : digA (sumL []) = D at *
  go_enter Tryd.func18, Tryd.ntmps18
  go_upto_region 1 with fail
  obtain ⟨w1, HW1, hr1, B1⟩ : ∃ w1, Hid (w.alloc (.cells z32 24) = w1) ∧ w1.heap[w.heap.size]? = some (.cells z32 24 (0, 0)) ∧ Below w.heap.size w w1 := ⟨_, Lib.hid rfl, heap_alloc_new _ _, (Below.refl _ _).alloc (Nat.le_refl _) _⟩
  rw [HW1.out]
  clear HW1
  go_wp2_with fail
  refine (HS.out w1 (hG.below B1)).mono ?_
  rintro e w3 ⟨rfl, b3⟩
  have hr3 : w3.heap[w.heap.size]? = some (.cells z32 24 (0, 0)) := (b3.block _ (Array.getElem?_eq_some_iff.1 hr1).1).trans hr1
  have B3 := B1.trans (b3.mono B1.size)
  clear b3 hr1
  go_wp2_with (refine wpList_store_row rfl _ _ _ rfl w.heap.size D rfl rfl 24 _ hr3 (by rw [hsz]; kernel_rfl) (by rw [hsz]; rfl) hone ?_)
  refine bodyPost_ret_by (results_cell_row rfl _ _ w.heap.size 24 D (0, 0) _ rfl (setRow_heap _ _ _ D 24 (0, 0) hr3) Tryd.underlying24 rfl (by rw [hsz]; kernel_rfl)) rfl ⟨rfl, ?_⟩
  exact below_setRow B3 (Nat.le_refl _) _
end Go.Proofs.YtndhegdhkoileaaDoor
