/- Laws of package rig (cellaret): RigNone, the opened act. -/
import Derived.Test.YtjmginkkjkbpoaaRiO
import Derived.Test.YtjmginkkjkbpoaaRiP
import Derived.Test.YtjmginkkjkbpoaaRiQ
namespace Go.Proofs.Ytjmginkkjkbpoaa
open Go.RowKit Go.Deep Go.ChangeShapes Go.WideShapes
set_option linter.unusedVariables false
set_option linter.unusedSimpArgs false
theorem act_fields12 : ∃ f0 f1 f2 f3 f4 f5 f6 f7, Try.prog.underlying 34 = some (.struct #[f0, f1, f2, f3, f4, f5, f6, f7]) ∧ (f0.type = 3 ∧ f0.offset = 0) ∧ (f1.type = 3 ∧ f1.offset = 1) ∧ (f2.type = 3 ∧ f2.offset = 2) ∧ (f3.type = 3 ∧ f3.offset = 3) ∧ (f4.type = 9 ∧ f4.offset = 4) ∧ (f5.type = 4 ∧ f5.offset = 5) :=
  ⟨_, _, _, _, _, _, _, _, Try.underlying34, ⟨rfl, rfl⟩, ⟨rfl, rfl⟩, ⟨rfl, rfl⟩, ⟨rfl, rfl⟩, ⟨rfl, rfl⟩, ⟨rfl, rfl⟩⟩
section
variable {H : Type} {enc : TypeId × Value → H} {w : World}
theorem open_act12 {r : Reach} {b0 : Nat} {v : Value} {d : DataW H} {p : List MemPlace} (hok : Value.okWide Try.prog w r b0 34 v) (h : DataW.Trod enc Try.prog w 0 (fun _ => true) true 34 v d p) :
    ∃ (k dd i n : Int) (s : ByteArray) (raw : Bool) (x0 x1 x2 y0 y1 y2 : Value), v = .agg #[.int .i64 k, .int .i64 dd, .int .i64 i, .int .i64 n, .string s, .bool raw, x0, x1, x2, y0, y1, y2] := by
  obtain ⟨f0, f1, f2, f3, f4, f5, f6, f7, hs, ⟨t0, o0⟩, ⟨t1, o1⟩, ⟨t2, o2⟩, ⟨t3, o3⟩, ⟨t4, o4⟩, ⟨t5, o5⟩⟩ := act_fields12
  obtain ⟨cs, rfl, hsz⟩ := okWide_struct hs hok
  obtain ⟨l⟩ := cs
  have hl : l.length = 12 := hsz.trans (by kernel_rfl)
  obtain ⟨fuel, hf⟩ := h
  obtain ⟨ys, n', hn', hy, hlen, hyl, hf'⟩ := DataW.trod_struct hs hf
  have e0 : (Value.agg ⟨l⟩).cells.toList = l := by simp [Value.cells]
  rw [e0] at hf'
  have hyl8 : ys.length = 8 := hyl
  obtain ⟨y0, g0⟩ : ∃ y, ys[0]? = some y := ⟨_, List.getElem?_eq_getElem (by omega)⟩
  obtain ⟨y1, g1⟩ : ∃ y, ys[1]? = some y := ⟨_, List.getElem?_eq_getElem (by omega)⟩
  obtain ⟨y2, g2⟩ : ∃ y, ys[2]? = some y := ⟨_, List.getElem?_eq_getElem (by omega)⟩
  obtain ⟨y3, g3⟩ : ∃ y, ys[3]? = some y := ⟨_, List.getElem?_eq_getElem (by omega)⟩
  obtain ⟨y4, g4⟩ : ∃ y, ys[4]? = some y := ⟨_, List.getElem?_eq_getElem (by omega)⟩
  obtain ⟨y5, g5⟩ : ∃ y, ys[5]? = some y := ⟨_, List.getElem?_eq_getElem (by omega)⟩
  have h0 := hf' 0 f0 rfl
  have h1 := hf' 1 f1 rfl
  have h2 := hf' 2 f2 rfl
  have h3 := hf' 3 f3 rfl
  have h4 := hf' 4 f4 rfl
  have h5 := hf' 5 f5 rfl
  rw [t0, o0, g0, show Try.prog.cellsOf 3 = 1 from by kernel_rfl, take_one _ _ (by omega)] at h0
  rw [t1, o1, g1, show Try.prog.cellsOf 3 = 1 from by kernel_rfl, take_one _ _ (by omega)] at h1
  rw [t2, o2, g2, show Try.prog.cellsOf 3 = 1 from by kernel_rfl, take_one _ _ (by omega)] at h2
  rw [t3, o3, g3, show Try.prog.cellsOf 3 = 1 from by kernel_rfl, take_one _ _ (by omega)] at h3
  rw [t4, o4, g4, show Try.prog.cellsOf 9 = 1 from by kernel_rfl, take_one _ _ (by omega)] at h4
  rw [t5, o5, g5, show Try.prog.cellsOf 4 = 1 from by kernel_rfl, take_one _ _ (by omega)] at h5
  obtain ⟨k, hk, _⟩ := field_int Try.underlying3 h0
  obtain ⟨dd, hd, _⟩ := field_int Try.underlying3 h1
  obtain ⟨i, hi, _⟩ := field_int Try.underlying3 h2
  obtain ⟨n, hn, _⟩ := field_int Try.underlying3 h3
  obtain ⟨s, hs'⟩ := field_str Try.underlying9 h4
  obtain ⟨b, hb⟩ := field_bool Try.underlying4 h5
  rcases l with _ | ⟨a0, _ | ⟨a1, _ | ⟨a2, _ | ⟨a3, _ | ⟨a4, _ | ⟨a5, _ | ⟨a6, _ | ⟨a7, _ | ⟨a8, _ | ⟨a9, _ | ⟨a10, _ | ⟨a11, _ | ⟨a12, l⟩⟩⟩⟩⟩⟩⟩⟩⟩⟩⟩⟩⟩ <;> first | (exfalso; simp at hl; done) | skip
  · simp only [List.getElem_cons_zero, List.getElem_cons_succ] at hk hd hi hn hs' hb
    subst hk hd hi hn hs' hb
    exact ⟨_, _, _, _, _, _, _, _, _, _, _, _, rfl⟩
  all_goals (exfalso; simp at hl; omega)
theorem rigNone_walk {r : Reach} {b0 : Nat} (v : Value) (d : DataW H) (p : List MemPlace) (w : World) (hok : Value.okWide Try.prog w r b0 34 v) (h : DataW.Trod enc Try.prog w 0 (fun _ => true) true 34 v d p) :
    Calls Try.prog 4 #[v] w fun e w' => e = .returned (.bool true) ∧ Below w.heap.size w w' := by
  obtain ⟨k, dd, i, n, s, raw, x0, x1, x2, y0, y1, y2, rfl⟩ := open_act12 hok h
  by_cases hs : s.size < 300
  · by_cases h0 : dd = 0
    · subst h0
      exact rigNone_zero k i n s raw x0 x1 x2 y0 y1 y2 w hs
    · by_cases h1 : dd = 1
      · subst h1
        exact rigNone_one k i n s raw x0 x1 x2 y0 y1 y2 w hs
      · exact rigNone_other k dd i n s raw x0 x1 x2 y0 y1 y2 w hs h0 h1
  · exact rigNone_far k dd i n s raw x0 x1 x2 y0 y1 y2 w hs
end
end Go.Proofs.Ytjmginkkjkbpoaa
