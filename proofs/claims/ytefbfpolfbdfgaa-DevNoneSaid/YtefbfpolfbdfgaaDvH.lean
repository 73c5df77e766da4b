/- Laws of package dev (cellaret): DevNone, the opened act. -/
import Derived.Test.YtefbfpolfbdfgaaDvG
import Derived.Test.YtefbfpolfbdfgaaOpenR
namespace Go.Proofs.Ytefbfpolfbdfgaa
open Go.RowKit Go.Deep Go.ChangeShapes Go.WideShapes
set_option linter.unusedVariables false
set_option linter.unusedSimpArgs false
theorem act_fields10 : ∃ f0 f1 f2 f3 f4, Try.prog.underlying 37 = some (.struct #[f0, f1, f2, f3, f4]) ∧ (f0.type = 3 ∧ f0.offset = 0) ∧ (f1.type = 3 ∧ f1.offset = 1) ∧ (f2.type = 9 ∧ f2.offset = 2) ∧ (f3.type = 4 ∧ f3.offset = 3) :=
  ⟨_, _, _, _, _, Try.underlying37, ⟨rfl, rfl⟩, ⟨rfl, rfl⟩, ⟨rfl, rfl⟩, ⟨rfl, rfl⟩⟩
section
variable {H : Type} {enc : TypeId × Value → H} {w : World}
theorem open_act10 {r : Reach} {b0 : Nat} {v : Value} {d : DataW H} {p : List MemPlace} (hok : Value.okWide Try.prog w r b0 37 v) (h : DataW.Trod enc Try.prog w 0 (fun _ => true) true 37 v d p) :
    ∃ (k i : Int) (s : ByteArray) (raw : Bool) (x y z : Value), v = .agg #[.int .i64 k, .int .i64 i, .string s, .bool raw, x, y, z] := by
  obtain ⟨f0, f1, f2, f3, f4, hs, ⟨t0, o0⟩, ⟨t1, o1⟩, ⟨t2, o2⟩, ⟨t3, o3⟩⟩ := act_fields10
  obtain ⟨cs, rfl, hsz⟩ := okWide_struct hs hok
  obtain ⟨l⟩ := cs
  have hl : l.length = 7 := hsz.trans (by kernel_rfl)
  obtain ⟨fuel, hf⟩ := h
  obtain ⟨ys, n', hn', hy, hlen, hyl, hf'⟩ := DataW.trod_struct hs hf
  have e0 : (Value.agg ⟨l⟩).cells.toList = l := by simp [Value.cells]
  rw [e0] at hf'
  have hyl5 : ys.length = 5 := hyl
  obtain ⟨y0, g0⟩ : ∃ y, ys[0]? = some y := ⟨_, List.getElem?_eq_getElem (by omega)⟩
  obtain ⟨y1, g1⟩ : ∃ y, ys[1]? = some y := ⟨_, List.getElem?_eq_getElem (by omega)⟩
  obtain ⟨y2, g2⟩ : ∃ y, ys[2]? = some y := ⟨_, List.getElem?_eq_getElem (by omega)⟩
  obtain ⟨y3, g3⟩ : ∃ y, ys[3]? = some y := ⟨_, List.getElem?_eq_getElem (by omega)⟩
  have h0 := hf' 0 f0 rfl
  have h1 := hf' 1 f1 rfl
  have h2 := hf' 2 f2 rfl
  have h3 := hf' 3 f3 rfl
  rw [t0, o0, g0, show Try.prog.cellsOf 3 = 1 from by kernel_rfl, take_one _ _ (by omega)] at h0
  rw [t1, o1, g1, show Try.prog.cellsOf 3 = 1 from by kernel_rfl, take_one _ _ (by omega)] at h1
  rw [t2, o2, g2, show Try.prog.cellsOf 9 = 1 from by kernel_rfl, take_one _ _ (by omega)] at h2
  rw [t3, o3, g3, show Try.prog.cellsOf 4 = 1 from by kernel_rfl, take_one _ _ (by omega)] at h3
  obtain ⟨k, hk, _⟩ := field_int Try.underlying3 h0
  obtain ⟨i, hi, _⟩ := field_int Try.underlying3 h1
  obtain ⟨s, hs'⟩ := field_str Try.underlying9 h2
  obtain ⟨b, hb⟩ := field_bool Try.underlying4 h3
  rcases l with _ | ⟨a0, _ | ⟨a1, _ | ⟨a2, _ | ⟨a3, _ | ⟨a4, _ | ⟨a5, _ | ⟨a6, _ | ⟨a7, l⟩⟩⟩⟩⟩⟩⟩⟩ <;> first | (exfalso; simp at hl; done) | skip
  · simp only [List.getElem_cons_zero, List.getElem_cons_succ] at hk hi hs' hb
    subst hk hi hs' hb
    exact ⟨_, _, _, _, _, _, _, rfl⟩
  all_goals (exfalso; simp at hl; omega)
end
end Go.Proofs.Ytefbfpolfbdfgaa
