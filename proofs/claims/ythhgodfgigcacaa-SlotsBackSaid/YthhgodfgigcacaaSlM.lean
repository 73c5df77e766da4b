/- Slots: SlotsNone. -/
import Derived.Test.YthhgodfgigcacaaSlL
import Derived.Test.YthhgodfgigcacaaOpen
import Derived.OpenShut
import Derived.ChangeArms
import Derived.Test.YthhgodfgigcacaaOpenR
namespace Go.Proofs.Ythhgodfgigcacaa
open Go.RowKit Go.Deep Go.ChangeShapes Go.WideShapes
set_option linter.unusedVariables false
set_option linter.unusedSimpArgs false
theorem i64_in {a : Int} (h : (Lit.int .i64 a).wf = true) : -9223372036854775808 ≤ a ∧ a ≤ 9223372036854775807 := by
  have : decide (-9223372036854775808 ≤ a) && decide (a ≤ 9223372036854775807) := h
  simpa using this
theorem act_offs22 : ∃ f0 f1 f2 f3 f4 f5, Try.prog.underlying 33 = some (.struct #[f0, f1, f2, f3, f4, f5]) ∧ (f0.type = 3 ∧ f0.offset = 0) ∧ (f1.type = 3 ∧ f1.offset = 1) ∧ (f2.type = 3 ∧ f2.offset = 2) ∧ (f3.type = 3 ∧ f3.offset = 3) ∧ (f4.type = 4 ∧ f4.offset = 4) ∧ (f5.type = 4 ∧ f5.offset = 5) :=
  ⟨_, _, _, _, _, _, Try.underlying33, ⟨rfl, rfl⟩, ⟨rfl, rfl⟩, ⟨rfl, rfl⟩, ⟨rfl, rfl⟩, ⟨rfl, rfl⟩, ⟨rfl, rfl⟩⟩
set_option maxRecDepth 100000 in
set_option maxHeartbeats 8000000 in
theorem none_law (k g i p : Int) (v d : Bool) (w : World) : Calls Try.prog 7 #[.agg #[.int .i64 k, .int .i64 g, .int .i64 i, .int .i64 p, .bool v, .bool d]] w fun e w' => e = .returned (.bool true) ∧ Below w.heap.size w w' := by
  have hE : ∀ w, (Op.equalIn 10000 44 (.agg #[.int .i64 0, .bool false, .bool false, .bool false, .bool false, .bool false, .bool false, .bool false, .bool false, .int .i64 0]) (.agg #[.int .i64 0, .bool false, .bool false, .bool false, .bool false, .bool false, .bool false, .bool false, .bool false, .int .i64 0])).run Try.prog w = .ok (decide (zeS = zeS)) w := eqAt_slot zeS zeS
  rw [decide_eq_true rfl] at hE
  obtain ⟨w1, hw1⟩ : ∃ w1, Hid (w.alloc (.cells #[.int .i64 k, .int .i64 g, .int .i64 i, .int .i64 p, .bool v, .bool d] 33) = w1) := ⟨_, Lib.hid rfl⟩
  obtain ⟨a, ha⟩ : ∃ a, Hid (w.heap.size = a) := ⟨_, Lib.hid rfl⟩
  have HB1 : Hid (Below w.heap.size w w1) := Lib.hid (by rw [← hw1.out]; exact (Below.refl _ _).alloc (Nat.le_refl _) _)
  have HR1 : Hid (w1.heap[a]? = some (.cells #[.int .i64 k, .int .i64 g, .int .i64 i, .int .i64 p, .bool v, .bool d] 33 (0, 0))) := Lib.hid (by rw [← hw1.out, ← ha.out]; exact heap_alloc_new _ _)
  have q1 : w1.cell? ⟨a, 1, none⟩ = some (.int .i64 g) := row_cell22 HR1.out 1 _ rfl
  have q2 : w1.cell? ⟨a, 2, none⟩ = some (.int .i64 i) := row_cell22 HR1.out 2 _ rfl
  go_enter Try.func7, Try.ntmps7
  go_upto_region 1 with fail
  rw [hw1.out, ha.out]
  clear hw1 ha
  go_wp2_with fail
  refine (takeT_nil g w1).mono ?_
  rintro e w' ⟨rfl, rfl⟩
  go_wp2_with fail
  refine (findT_nil g w1).mono ?_
  rintro e w2 ⟨rfl, b2⟩
  have HB2 := Lib.hid (HB1.out.trans (b2.mono HB1.out.size))
  have HR2 := Lib.hid ((b2.block a (Array.getElem?_eq_some_iff.1 HR1.out).1).trans HR1.out)
  clear b2 HB1 HR1 q1 q2
  have r2 : w2.cell? ⟨a, 2, none⟩ = some (.int .i64 i) := row_cell22 HR2.out 2 _ rfl
  go_wp2_with fail
  refine (atT_nil i w2).mono ?_
  rintro e w3 ⟨rfl, b3⟩
  have HB3 := Lib.hid (HB2.out.trans (b3.mono HB2.out.size))
  have HR3 := Lib.hid ((b3.block a (Array.getElem?_eq_some_iff.1 HR2.out).1).trans HR2.out)
  clear b3 HB2 HR2 r2
  go_wp2_with fail
  have hrow : (w3.alloc (.cells #[.int .i64 0, .bool false, .bool false, .bool false, .bool false, .bool false, .bool false, .bool false, .bool false, .int .i64 0] 44)).heap[w3.heap.size]? = some (.cells #[.int .i64 0, .bool false, .bool false, .bool false, .bool false, .bool false, .bool false, .bool false, .bool false, .int .i64 0] 44 (0, 0)) := heap_alloc_new _ _
  have hcx : (w3.alloc (.cells #[.int .i64 0, .bool false, .bool false, .bool false, .bool false, .bool false, .bool false, .bool false, .bool false, .int .i64 0] 44)).cell? ⟨w3.heap.size, 0, none⟩ = some (.int .i64 zeS.g) ∧ (w3.alloc (.cells #[.int .i64 0, .bool false, .bool false, .bool false, .bool false, .bool false, .bool false, .bool false, .bool false, .int .i64 0] 44)).cell? ⟨w3.heap.size, 1, none⟩ = some (.bool zeS.v0) ∧ (w3.alloc (.cells #[.int .i64 0, .bool false, .bool false, .bool false, .bool false, .bool false, .bool false, .bool false, .bool false, .int .i64 0] 44)).cell? ⟨w3.heap.size, 2, none⟩ = some (.bool zeS.v1) ∧ (w3.alloc (.cells #[.int .i64 0, .bool false, .bool false, .bool false, .bool false, .bool false, .bool false, .bool false, .bool false, .int .i64 0] 44)).cell? ⟨w3.heap.size, 3, none⟩ = some (.bool zeS.v2) ∧ (w3.alloc (.cells #[.int .i64 0, .bool false, .bool false, .bool false, .bool false, .bool false, .bool false, .bool false, .bool false, .int .i64 0] 44)).cell? ⟨w3.heap.size, 4, none⟩ = some (.bool zeS.v3) ∧ (w3.alloc (.cells #[.int .i64 0, .bool false, .bool false, .bool false, .bool false, .bool false, .bool false, .bool false, .bool false, .int .i64 0] 44)).cell? ⟨w3.heap.size, 5, none⟩ = some (.bool zeS.d0) ∧ (w3.alloc (.cells #[.int .i64 0, .bool false, .bool false, .bool false, .bool false, .bool false, .bool false, .bool false, .bool false, .int .i64 0] 44)).cell? ⟨w3.heap.size, 6, none⟩ = some (.bool zeS.d1) ∧ (w3.alloc (.cells #[.int .i64 0, .bool false, .bool false, .bool false, .bool false, .bool false, .bool false, .bool false, .bool false, .int .i64 0] 44)).cell? ⟨w3.heap.size, 7, none⟩ = some (.bool zeS.d2) ∧ (w3.alloc (.cells #[.int .i64 0, .bool false, .bool false, .bool false, .bool false, .bool false, .bool false, .bool false, .bool false, .int .i64 0] 44)).cell? ⟨w3.heap.size, 8, none⟩ = some (.bool zeS.d3) ∧ (w3.alloc (.cells #[.int .i64 0, .bool false, .bool false, .bool false, .bool false, .bool false, .bool false, .bool false, .bool false, .int .i64 0] 44)).cell? ⟨w3.heap.size, 9, none⟩ = some (.int .i64 zeS.l) := ⟨row_cell22 hrow 0 _ rfl, row_cell22 hrow 1 _ rfl, row_cell22 hrow 2 _ rfl, row_cell22 hrow 3 _ rfl, row_cell22 hrow 4 _ rfl, row_cell22 hrow 5 _ rfl, row_cell22 hrow 6 _ rfl, row_cell22 hrow 7 _ rfl, row_cell22 hrow 8 _ rfl, row_cell22 hrow 9 _ rfl⟩
  have hBA : Below w3.heap.size w3 (w3.alloc (.cells #[.int .i64 0, .bool false, .bool false, .bool false, .bool false, .bool false, .bool false, .bool false, .bool false, .int .i64 0] 44)) := (Below.refl _ _).alloc (Nat.le_refl _) _
  have HBZ := Lib.hid (HB3.out.trans (hBA.mono HB3.out.size))
  have HRZ := Lib.hid ((hBA.block a (Array.getElem?_eq_some_iff.1 HR3.out).1).trans HR3.out)
  have CA := Lib.hid (awake22 (w3.alloc (.cells #[.int .i64 0, .bool false, .bool false, .bool false, .bool false, .bool false, .bool false, .bool false, .bool false, .int .i64 0] 44)))
  generalize (w3.alloc (.cells #[.int .i64 0, .bool false, .bool false, .bool false, .bool false, .bool false, .bool false, .bool false, .bool false, .int .i64 0] 44)) = w4 at *
  generalize w3.heap.size = c at *
  clear hBA hrow HB3 HR3
  refine CA.out.mono ?_
  rintro e w5 ⟨rfl, b5⟩
  obtain ⟨x0, x1, x2, x3, x4, x5, x6, x7, x8, x9⟩ := ten_below b5 hcx
  have HB5 := Lib.hid (HBZ.out.trans (b5.mono HBZ.out.size))
  have HR5 := Lib.hid ((b5.block a (Array.getElem?_eq_some_iff.1 HRZ.out).1).trans HRZ.out)
  have q2 : w5.cell? ⟨a, 2, none⟩ = some (.int .i64 i) := row_cell22 HR5.out 2 _ rfl
  have q3 : w5.cell? ⟨a, 3, none⟩ = some (.int .i64 p) := row_cell22 HR5.out 3 _ rfl
  have q4 : w5.cell? ⟨a, 4, none⟩ = some (.bool v) := row_cell22 HR5.out 4 _ rfl
  have q5 : w5.cell? ⟨a, 5, none⟩ = some (.bool d) := row_cell22 HR5.out 5 _ rfl
  clear hcx b5 CA HBZ HRZ HR5
  simp only [zeS] at x0 x1 x2 x3 x4 x5 x6 x7 x8 x9
  go_wp2_with fail
  refine (freeT_nil i w5).mono ?_
  rintro e w' ⟨rfl, rfl⟩
  go_wp2_with fail
  refine (markT_nil i p v d w5).mono ?_
  rintro e w' ⟨rfl, rfl⟩
  go_wp2_with fail
  refine (raiseT_nil i p w5).mono ?_
  rintro e w' ⟨rfl, rfl⟩
  go_wp2_with fail
  refine (bytesT_nil w5).mono ?_
  rintro e w' ⟨rfl, rfl⟩
  go_wp2_with fail
  refine (dirtyT_nil w5).mono ?_
  rintro e w' ⟨rfl, rfl⟩
  go_wp2_with fail
  refine (lenT_nil w5).mono ?_
  rintro e w' ⟨rfl, rfl⟩
  go_wp2_with fail
  refine (copyT_nil w5).mono ?_
  rintro e w' ⟨rfl, rfl⟩
  go_wp2_with fail
  go_ret
  exact ⟨rfl, HB5.out⟩
section
variable {H : Type} {enc : TypeId × Value → H} {w : World}
theorem open_act22 {r : Reach} {b0 : Nat} {vv : Value} {d : DataW H} {p : List MemPlace} (hok : Value.okWide Try.prog w r b0 33 vv) (h : DataW.Trod enc Try.prog w 0 (fun _ => true) true 33 vv d p) :
    ∃ (k g i m : Int) (v d : Bool), vv = .agg #[.int .i64 k, .int .i64 g, .int .i64 i, .int .i64 m, .bool v, .bool d] := by
  obtain ⟨f0, f1, f2, f3, f4, f5, hs, ⟨t0, o0⟩, ⟨t1, o1⟩, ⟨t2, o2⟩, ⟨t3, o3⟩, ⟨t4, o4⟩, ⟨t5, o5⟩⟩ := act_offs22
  obtain ⟨cs, rfl, hsz⟩ := okWide_struct hs hok
  obtain ⟨l⟩ := cs
  have hl : l.length = 6 := hsz.trans (by kernel_rfl)
  obtain ⟨fuel, hf⟩ := h
  obtain ⟨ys, n', hn', hy, hlen, hyl, hf'⟩ := DataW.trod_struct hs hf
  have e0 : (Value.agg ⟨l⟩).cells.toList = l := by simp [Value.cells]
  rw [e0] at hf'
  have hyl6 : ys.length = 6 := hyl
  obtain ⟨y0, g0⟩ : ∃ y, ys[0]? = some y := ⟨_, List.getElem?_eq_getElem (by omega)⟩
  obtain ⟨y1, g1⟩ : ∃ y, ys[1]? = some y := ⟨_, List.getElem?_eq_getElem (by omega)⟩
  obtain ⟨y2, g2⟩ : ∃ y, ys[2]? = some y := ⟨_, List.getElem?_eq_getElem (by omega)⟩
  obtain ⟨y3, g3⟩ : ∃ y, ys[3]? = some y := ⟨_, List.getElem?_eq_getElem (by omega)⟩
  obtain ⟨y4, g4⟩ : ∃ y, ys[4]? = some y := ⟨_, List.getElem?_eq_getElem (by omega)⟩
  obtain ⟨y5, g5⟩ : ∃ y, ys[5]? = some y := ⟨_, List.getElem?_eq_getElem (by omega)⟩
  have h0 := hf' 0 f0 rfl
  have h1 := hf' 1 f1 rfl
  have h2 := hf' 2 f2 rfl
  have h3 := hf' 3 f3 rfl
  have h4 := hf' 4 f4 rfl
  have h5 := hf' 5 f5 rfl
  rw [t0, o0, g0, show Try.prog.cellsOf 3 = 1 from by kernel_rfl, take_one _ _ (by omega)] at h0
  rw [t1, o1, g1, show Try.prog.cellsOf 3 = 1 from by kernel_rfl, take_one _ _ (by omega)] at h1
  rw [t2, o2, g2, show Try.prog.cellsOf 3 = 1 from by kernel_rfl, take_one _ _ (by omega)] at h2
  rw [t3, o3, g3, show Try.prog.cellsOf 3 = 1 from by kernel_rfl, take_one _ _ (by omega)] at h3
  rw [t4, o4, g4, show Try.prog.cellsOf 4 = 1 from by kernel_rfl, take_one _ _ (by omega)] at h4
  rw [t5, o5, g5, show Try.prog.cellsOf 4 = 1 from by kernel_rfl, take_one _ _ (by omega)] at h5
  obtain ⟨k, hk, _⟩ := field_int Try.underlying3 h0
  obtain ⟨g, hg, _⟩ := field_int Try.underlying3 h1
  obtain ⟨i, hi, _⟩ := field_int Try.underlying3 h2
  obtain ⟨m, hm, _⟩ := field_int Try.underlying3 h3
  obtain ⟨v, hv⟩ := field_bool Try.underlying4 h4
  obtain ⟨d, hd⟩ := field_bool Try.underlying4 h5
  rcases l with _ | ⟨b0, _ | ⟨b1, _ | ⟨b2, _ | ⟨b3, _ | ⟨b4, _ | ⟨b5, _ | ⟨b6, l⟩⟩⟩⟩⟩⟩⟩ <;> first | (exfalso; simp at hl; done) | skip
  · simp only [List.getElem_cons_zero, List.getElem_cons_succ] at hk hg hi hm hv hd
    subst hk hg hi hm hv hd
    exact ⟨_, _, _, _, _, _, rfl⟩
  all_goals (exfalso; simp at hl; omega)
theorem slotsNone_walk {r : Reach} {b0 : Nat} (vv : Value) (d : DataW H) (p : List MemPlace) (w : World) (hok : Value.okWide Try.prog w r b0 33 vv) (h : DataW.Trod enc Try.prog w 0 (fun _ => true) true 33 vv d p) :
    Calls Try.prog 7 #[vv] w fun e w' => e = .returned (.bool true) ∧ Below w.heap.size w w' := by
  obtain ⟨k, g, i, m, v, d, rfl⟩ := open_act22 hok h
  exact none_law k g i m v d w
end
end Go.Proofs.Ythhgodfgigcacaa
