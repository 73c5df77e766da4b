/- Opening the argument of GfColumns (cellaret). -/
import Derived.Test.YtgojeonpnjjkeaaGfI
import Derived.Laws.IdiomArrays
namespace Go.Proofs.Ytgojeonpnjjkeaa
open Go.RowKit Go.Deep Go.ChangeShapes Go.WideShapes
set_option linter.unusedVariables false
theorem array10 (cs : Array Value) (h : cs.size = 10) : ∃ c0 c1 c2 c3 c4 c5 c6 c7 c8 c9, cs = #[c0, c1, c2, c3, c4, c5, c6, c7, c8, c9] := by
  obtain ⟨l⟩ := cs
  match l, h with
  | [c0, c1, c2, c3, c4, c5, c6, c7, c8, c9], _ => exact ⟨c0, c1, c2, c3, c4, c5, c6, c7, c8, c9, rfl⟩
section
variable {H : Type} {enc : TypeId × Value → H}
theorem cols_fields : ∃ f0 f1 f2 f3, Try.prog.underlying 39 = some (.struct #[f0, f1, f2, f3]) ∧ f0.type = 36 ∧ f1.type = 36 ∧ f2.type = 37 ∧ f3.type = 37 ∧ f0.offset = 0 ∧ f1.offset = 4 ∧ f2.offset = 8 ∧ f3.offset = 9 :=
  ⟨_, _, _, _, Try.underlying39, rfl, rfl, rfl, rfl, rfl, rfl, rfl, rfl⟩
theorem cells_arr : Try.prog.cellsOf 36 = 4 := by kernel_rfl
theorem cells_sl : Try.prog.cellsOf 37 = 1 := by kernel_rfl
theorem cells_cols : Try.prog.cellsOf 39 = 10 := by kernel_rfl
theorem cells_u8 : Try.prog.cellsOf 5 = 1 := by kernel_rfl
/-- Four bytes of an array. -/
theorem open_four_u8 {w : World} {n : Nat} {c0 c1 c2 c3 : Value} {y : DataW H × List MemPlace} (h : DataW.trod enc Try.prog w 0 (fun _ => true) true n 36 [c0, c1, c2, c3] = some y) :
    ∃ f : Nat → Nat, (∀ i, f i < 256) ∧ c0 = .int .u8 (f 0 : Int) ∧ c1 = .int .u8 (f 1 : Int) ∧ c2 = .int .u8 (f 2 : Int) ∧ c3 = .int .u8 (f 3 : Int) := by
  obtain ⟨y0, y1, y2, y3, m, _, h0, h1, h2, h3⟩ := trod_array4 Try.underlying36 cells_u8 h
  obtain ⟨x0, rfl, b0⟩ := field_int Try.underlying5 h0
  obtain ⟨x1, rfl, b1⟩ := field_int Try.underlying5 h1
  obtain ⟨x2, rfl, b2⟩ := field_int Try.underlying5 h2
  obtain ⟨x3, rfl, b3⟩ := field_int Try.underlying5 h3
  obtain ⟨x0, rfl, l0⟩ := u8_nat b0
  obtain ⟨x1, rfl, l1⟩ := u8_nat b1
  obtain ⟨x2, rfl, l2⟩ := u8_nat b2
  obtain ⟨x3, rfl, l3⟩ := u8_nat b3
  refine ⟨fun i => if i = 0 then x0 else if i = 1 then x1 else if i = 2 then x2 else x3, fun i => ?_, rfl, rfl, rfl, rfl⟩
  show (if i = 0 then x0 else if i = 1 then x1 else if i = 2 then x2 else x3) < 256
  repeat' split
  all_goals assumption
theorem open_cols {w : World} {r : Reach} {b0 : Nat} {v : Value} {d : DataW H} {p : List MemPlace} (hok : Value.okWide Try.prog w r b0 39 v) (h : DataW.Trod enc Try.prog w 0 (fun _ => true) true 39 v d p) :
    ∃ (f g : Nat → Nat) (s1 s2 : Value) (y1 y2 : DataW H × List MemPlace) (n : Nat), v = .agg #[.int .u8 (f 0 : Int), .int .u8 (f 1 : Int), .int .u8 (f 2 : Int), .int .u8 (f 3 : Int), .int .u8 (g 0 : Int), .int .u8 (g 1 : Int), .int .u8 (g 2 : Int), .int .u8 (g 3 : Int), s1, s2] ∧ (∀ i, f i < 256) ∧ (∀ i, g i < 256) ∧
      DataW.trod enc Try.prog w 0 (fun _ => true) true n 37 [s1] = some y1 ∧ DataW.trod enc Try.prog w 0 (fun _ => true) true n 37 [s2] = some y2 := by
  obtain ⟨f0, f1, f2, f3, hs, t0, t1, t2, t3, o0, o1, o2, o3⟩ := cols_fields
  obtain ⟨cs, rfl, hsz⟩ := okWide_struct hs hok
  obtain ⟨c0, c1, c2, c3, c4, c5, c6, c7, c8, c9, rfl⟩ := array10 cs (hsz.trans cells_cols)
  obtain ⟨fuel, hf⟩ := h
  obtain ⟨y0, y1, y2, y3, n, hx, _, h0, h1, h2, h3⟩ := Joins.trod_struct4 hs hf
  rw [t0, o0, cells_arr] at h0
  rw [t1, o1, cells_arr] at h1
  rw [t2, o2, cells_sl] at h2
  rw [t3, o3, cells_sl] at h3
  obtain ⟨f, hf1, rfl, rfl, rfl, rfl⟩ := open_four_u8 (by simpa [Value.cells] using h0)
  obtain ⟨g, hg1, rfl, rfl, rfl, rfl⟩ := open_four_u8 (by simpa [Value.cells] using h1)
  exact ⟨f, g, c8, c9, y2, y3, n, rfl, hf1, hg1, by simpa [Value.cells] using h2, by simpa [Value.cells] using h3⟩
end
end Go.Proofs.Ytgojeonpnjjkeaa
