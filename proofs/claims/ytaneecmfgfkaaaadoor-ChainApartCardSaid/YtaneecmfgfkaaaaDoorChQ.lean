/- Opening: rows of texts, rows of rows; the argument of ChainApart (layer 14). -/
import Derived.Test.YtaneecmfgfkaaaaDoorChO
import Derived.Test.YtaneecmfgfkaaaaDoorChP
namespace Go.Proofs.YtaneecmfgfkaaaaDoor
open Go.RowKit Go.Deep Go.Maps Go.ChangeShapes Go.WideShapes
set_option linter.unusedVariables false
set_option linter.unusedSimpArgs false
/-- Rows of texts that came in. -/
def RowsAt2 (w : World) (lr : Option Addr) (R : List (List ByteArray)) : Prop := 0 < R.length → ∃ g o, lr = some ⟨g, o, none⟩ ∧ g < w.heap.size ∧ ∀ i (h : i < R.length), ∃ la c, w.cell? ⟨g, o + i, none⟩ = some (.slice la (R[i]).length c) ∧ (R[i]).length ≤ c ∧ (R[i]).length ≤ 9223372036854775807 ∧ TxtAt w la R[i]
theorem RowsAt2.b {w wc : World} {lr : Option Addr} {R : List (List ByteArray)} {o : Option Addr} {X : Option OrS} (h : RowsAt2 w lr R) (hb : Below w.heap.size w wc) (hX : OrX w.heap.size wc o X) : RowsB wc.heap.size wc X lr R := fun h0 => by
  obtain ⟨g, oo, e, hg, hc⟩ := h h0
  refine ⟨g, oo, e, Nat.lt_of_lt_of_le hg hb.size, hX.freeLow g hg, fun i hi => ?_⟩
  obtain ⟨la, c, q1, q2, q3, q4⟩ := hc i hi
  exact ⟨la, c, (hb.cell (p := ⟨g, oo + i, none⟩) hg).trans q1, q2, q3, q4.b hb hX⟩
section
variable {H : Type} {enc : TypeId × Value → H} {w : World}
set_option maxRecDepth 100000 in
theorem trod_txt {n : Nat} {v : Value} {y : DataW H × List MemPlace} (h : DataW.trod enc Tryd.prog w 0 (fun _ => true) true n 25 [v] = some y) : ∃ la m c, ∃ L : List ByteArray, v = .slice la m c ∧ m ≤ c ∧ c ≤ maxLen ∧ L.length = m ∧ TxtAt w la L := by
  have hok : ∃ a len cap, v = .slice a len cap := by
    rcases open_slice Tryd.underlying25 h with ⟨hcs, _⟩ | ⟨a, len, cap, _, _, _, _, hcs, _⟩
    · exact ⟨none, 0, 0, by simpa using hcs⟩
    · exact ⟨some a, len, cap, by simpa using hcs⟩
  obtain ⟨d, p⟩ := y
  refine open_txt (enc := enc) (d := d) (p := p) hok ⟨n, ?_⟩
  obtain ⟨a, l, c, rfl⟩ := hok
  simpa [Value.cells] using h
set_option maxRecDepth 100000 in
theorem trod_rows {n : Nat} {v : Value} {y : DataW H × List MemPlace} (h : DataW.trod enc Tryd.prog w 0 (fun _ => true) true n 47 [v] = some y) : ∃ lr m c, ∃ R : List (List ByteArray), v = .slice lr m c ∧ m ≤ c ∧ c ≤ maxLen ∧ R.length = m ∧ RowsAt2 w lr R := by
  rcases open_slice1 Tryd.underlying47 (by kernel_rfl) h with ⟨hcs, _⟩ | ⟨a, len, cap, m, n', V, D, Pl, hcs, hb, hl, hm, hmm, hx, hi⟩
  · refine ⟨none, 0, 0, [], by simpa using hcs, Nat.le_refl _, Nat.zero_le _, rfl, fun h => absurd h (by simp)⟩
  · have hv : v = .slice (some a) len cap := by simpa using hcs
    have hs : ∀ i, i < len → ∃ L : List ByteArray, ∃ la c, w.cell? (a.add i) = some (.slice la L.length c) ∧ L.length ≤ c ∧ L.length ≤ 9223372036854775807 ∧ TxtAt w la L := fun i hil => by
      have him : i < m := by rw [hmm]; split <;> omega
      obtain ⟨h1, h2⟩ := hi i him
      obtain ⟨la, k, c, L, e, q1, q2, q3, q4⟩ := trod_txt h2
      unfold maxLen at q2
      rw [e] at h1
      exact ⟨L, la, c, by rw [q3]; exact h1, by omega, by omega, q4⟩
    obtain ⟨R, r1, r2⟩ := list_of_ex len (fun i (L : List ByteArray) => ∃ la c, w.cell? (a.add i) = some (.slice la L.length c) ∧ L.length ≤ c ∧ L.length ≤ 9223372036854775807 ∧ TxtAt w la L) hs
    refine ⟨some a, len, cap, R, hv, hl, hm, r1, fun h0 => ?_⟩
    obtain ⟨la, c, q1, _⟩ := r2 0 h0
    obtain ⟨b, off, spot⟩ := a
    have hspot : spot = none := by
      have := World.cell?_spot q1
      simpa [Addr.add] using this
    subst hspot
    refine ⟨b, off, rfl, by simpa [Addr.add] using cell_lt' q1, fun i hil => ?_⟩
    obtain ⟨la, c, q1, q2, q3, q4⟩ := r2 i hil
    exact ⟨la, c, by rw [← q1, Addr.add_lit], q2, q3, q4⟩
/-- The cells of the argument. -/
def rowsV (a : List UInt8) (v1 v2 v3 v4 : Value) : Array Value := (bv a ++ [v1, v2, v3, v4]).toArray
theorem rows_fields : ∃ f0 f1 f2 f3 f4, Tryd.prog.underlying 51 = some (.struct #[f0, f1, f2, f3, f4]) ∧ (f0.type = 34 ∧ f0.offset = 0) ∧ (f1.type = 25 ∧ f1.offset = 32) ∧ (f2.type = 25 ∧ f2.offset = 33) ∧ (f3.type = 47 ∧ f3.offset = 34) ∧ (f4.type = 47 ∧ f4.offset = 35) :=
  ⟨_, _, _, _, _, Tryd.underlying51, ⟨rfl, rfl⟩, ⟨rfl, rfl⟩, ⟨rfl, rfl⟩, ⟨rfl, rfl⟩, ⟨rfl, rfl⟩⟩
theorem take1 (l : List Value) (o : Nat) (h : o < l.length) : (l.drop o).take 1 = [l[o]] := by rw [List.drop_eq_getElem_cons h]; rfl
set_option maxRecDepth 100000 in
theorem open_rowsC {r : Reach} {b0 : Nat} {v : Value} {d : DataW H} {p : List MemPlace} (hok : Value.okWide Tryd.prog w r b0 51 v) (h : DataW.Trod enc Tryd.prog w 0 (fun _ => true) true 51 v d p) :
    ∃ (a : List UInt8) (v1 v2 v3 v4 : Value), v = .agg (rowsV a v1 v2 v3 v4) ∧ a.length = 32 ∧
      (∃ la n c, ∃ L : List ByteArray, v1 = .slice la n c ∧ n ≤ c ∧ c ≤ maxLen ∧ L.length = n ∧ TxtAt w la L) ∧
      (∃ la n c, ∃ L : List ByteArray, v2 = .slice la n c ∧ n ≤ c ∧ c ≤ maxLen ∧ L.length = n ∧ TxtAt w la L) ∧
      (∃ lr m c, ∃ R : List (List ByteArray), v3 = .slice lr m c ∧ m ≤ c ∧ c ≤ maxLen ∧ R.length = m ∧ RowsAt2 w lr R) ∧
      (∃ lr m c, ∃ R : List (List ByteArray), v4 = .slice lr m c ∧ m ≤ c ∧ c ≤ maxLen ∧ R.length = m ∧ RowsAt2 w lr R) := by
  obtain ⟨f0, f1, f2, f3, f4, hs, ⟨t0, o0⟩, ⟨t1, o1⟩, ⟨t2, o2⟩, ⟨t3, o3⟩, ⟨t4, o4⟩⟩ := rows_fields
  obtain ⟨cs, rfl, hsz⟩ := okWide_struct hs hok
  obtain ⟨l⟩ := cs
  have hl : l.length = 36 := hsz.trans (by kernel_rfl)
  obtain ⟨fuel, hf⟩ := h
  obtain ⟨ys, n', hn', hy, hlen, hyl, hf'⟩ := DataW.trod_struct hs hf
  have e0 : (Value.agg ⟨l⟩).cells.toList = l := by simp [Value.cells]
  rw [e0] at hf'
  have hyl5 : ys.length = 5 := hyl
  have h0 := (hf' 0 f0 rfl).trans (List.getElem?_eq_getElem (by omega))
  have h1 := (hf' 1 f1 rfl).trans (List.getElem?_eq_getElem (by omega))
  have h2 := (hf' 2 f2 rfl).trans (List.getElem?_eq_getElem (by omega))
  have h3 := (hf' 3 f3 rfl).trans (List.getElem?_eq_getElem (by omega))
  have h4 := (hf' 4 f4 rfl).trans (List.getElem?_eq_getElem (by omega))
  rw [t0, o0] at h0
  rw [t1, o1, show Tryd.prog.cellsOf 25 = 1 from by kernel_rfl, take1 l 32 (by omega)] at h1
  rw [t2, o2, show Tryd.prog.cellsOf 25 = 1 from by kernel_rfl, take1 l 33 (by omega)] at h2
  rw [t3, o3, show Tryd.prog.cellsOf 47 = 1 from by kernel_rfl, take1 l 34 (by omega)] at h3
  rw [t4, o4, show Tryd.prog.cellsOf 47 = 1 from by kernel_rfl, take1 l 35 (by omega)] at h4
  have hz := arr_ints Tryd.underlying34 Tryd.underlying5 (by kernel_rfl) h0
  rw [show Tryd.prog.cellsOf 34 = 32 from by kernel_rfl] at hz
  refine ⟨(l.take 32).map fun v => match v with | .int _ z => UInt8.ofNat z.toNat | _ => 0, l[32], l[33], l[34], l[35], ?_, by simp [hl], trod_txt h1, trod_txt h2, trod_rows h3, trod_rows h4⟩
  congr 1
  unfold rowsV bv
  congr 1
  rw [List.map_map]
  apply List.ext_getElem?
  intro j
  by_cases hj : j < 32
  · obtain ⟨z, q1, q2⟩ := hz j hj
    rw [List.getElem?_append_left (by simp [hl]; exact hj), List.getElem?_map]
    have q3 : l[j]? = some (.int .u8 z) := by
      have : ((l.drop 0).take 32)[j]? = l[j]? := by rw [List.drop_zero, List.getElem?_take_of_lt hj]
      rw [← this]; exact q1
    rw [List.getElem?_take_of_lt hj, q3]
    simp only [Option.map_some, Function.comp, u8_wf q2]
  · rw [List.getElem?_append_right (by simp [hl]; omega)]
    have hlen : ((l.take 32).map (((fun b : UInt8 => Value.int .u8 (b.toNat : Int)) ∘ fun v => match v with | .int _ z => UInt8.ofNat z.toNat | _ => 0))).length = 32 := by simp [hl]
    rw [hlen]
    rcases (show j = 32 ∨ j = 33 ∨ j = 34 ∨ j = 35 ∨ 36 ≤ j by omega) with rfl | rfl | rfl | rfl | hj2
    · exact List.getElem?_eq_getElem (by omega)
    · exact List.getElem?_eq_getElem (by omega)
    · exact List.getElem?_eq_getElem (by omega)
    · exact List.getElem?_eq_getElem (by omega)
    · rw [List.getElem?_eq_none (by omega), List.getElem?_eq_none (by simp; omega)]
end
end Go.Proofs.YtaneecmfgfkaaaaDoor
