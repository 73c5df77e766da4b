/- The oracle: texts and digests that came in, opened; the reference's Pair. -/
import Derived.Test.YtaneecmfgfkaaaaDoorOrK
import Derived.Deep.Slices
namespace Go.Proofs.YtaneecmfgfkaaaaDoor
open Go.RowKit Go.Deep Go.Maps Go.ChangeShapes Go.WideShapes
set_option linter.unusedVariables false
set_option linter.unusedSimpArgs false
theorem list_of_ex {α : Type} : ∀ (n : Nat) (p : Nat → α → Prop), (∀ i, i < n → ∃ x, p i x) → ∃ X : List α, X.length = n ∧ ∀ i (h : i < X.length), p i X[i]
  | 0, p, _ => ⟨[], rfl, fun i h => absurd h (Nat.not_lt_zero _)⟩
  | n + 1, p, h => by
    obtain ⟨X, h1, h2⟩ := list_of_ex n p (fun i hi => h i (by omega))
    obtain ⟨x, hx⟩ := h n (by omega)
    refine ⟨X ++ [x], by simp [h1], fun i hi => ?_⟩
    by_cases e : i < X.length
    · rw [List.getElem_append_left e]; exact h2 i e
    · have : i = n := by simp at hi; omega
      subst this
      rw [List.getElem_append_right (by omega)]
      simpa [h1] using hx
section
variable {H : Type} {enc : TypeId × Value → H} {P : Program} {w : World}
/-- A slice of strings that came in. -/
def StrRow (w : World) (ao : Option Addr) (len : Nat) : Prop := 0 < len → ∃ b off, ao = some ⟨b, off, none⟩ ∧ b < w.heap.size ∧ ∀ i, i < len → ∃ s, w.cell? ⟨b, off + i, none⟩ = some (.string s)
theorem cell_lt' {w : World} {a : Addr} {v : Value} (h : w.cell? a = some v) : a.block < w.heap.size := block_lt_of_cell h
theorem open_strs {t e : TypeId} {v : Value} {d : DataW H} {p : List MemPlace} (ht : P.underlying t = some (.slice e)) (he : P.underlying e = some .string) (hC : P.cellsOf e = 1)
    (hok : ∃ a len cap, v = .slice a len cap) (h : DataW.Trod enc P w 0 (fun _ => true) true t v d p) : ∃ ao len cap, v = .slice ao len cap ∧ len ≤ maxLen ∧ StrRow w ao len := by
  obtain ⟨a0, l0, c0, rfl⟩ := hok
  obtain ⟨fuel, hf⟩ := h
  rcases open_slice ht hf with ⟨hcs, _⟩ | ⟨a, len, cap, m, n, D, Pl, hcs, hb, hl, hm, hmm, hx, hi⟩
  · simp [Value.cells] at hcs
    obtain ⟨rfl, rfl, rfl⟩ := hcs
    exact ⟨_, _, _, rfl, by unfold maxLen; omega, fun h => absurd h (by omega)⟩
  · simp [Value.cells] at hcs
    obtain ⟨rfl, rfl, rfl⟩ := hcs
    have hs : ∀ i, i < l0 → ∃ s, w.cell? (a.add i) = some (.string s) := fun i hil => by
      have him : i < m := by rw [hmm]; split <;> omega
      obtain ⟨cs', hc, ht'⟩ := hi i him
      rw [hC] at hc
      obtain ⟨_, hcl, hat⟩ := World.cells?_some hc
      obtain ⟨s, rfl, _⟩ := DataW.trod_string he ht'
      have h1 := hat 0 (by omega)
      rw [Nat.mul_one] at h1
      refine ⟨s, ?_⟩
      rw [Go.Deep.add_add, Nat.add_zero] at h1
      exact h1
    refine ⟨_, _, _, rfl, by omega, fun hpos => ?_⟩
    obtain ⟨s0, h0⟩ := hs 0 hpos
    obtain ⟨b, off, spot⟩ := a
    have hspot : spot = none := by
      have := World.cell?_spot h0
      simpa [Addr.add] using this
    subst hspot
    refine ⟨b, off, rfl, by simpa [Addr.add] using cell_lt' h0, fun i hil => ?_⟩
    obtain ⟨s, h1⟩ := hs i hil
    exact ⟨s, by rw [← h1, Addr.add_lit]⟩
end
theorem txt_of {w : World} {ao : Option Addr} {len : Nat} (h : StrRow w ao len) : ∃ L : List ByteArray, L.length = len ∧ TxtAt w ao L := by
  by_cases h0 : 0 < len
  · obtain ⟨b, off, rfl, hb, hc⟩ := h h0
    obtain ⟨L, h1, h2⟩ := list_of_ex len (fun i s => w.cell? ⟨b, off + i, none⟩ = some (.string s)) hc
    exact ⟨L, h1, fun _ => ⟨b, off, rfl, hb, h2⟩⟩
  · exact ⟨[], by simp; omega, fun h => absurd h (by simp)⟩
section
variable {H : Type} {enc : TypeId × Value → H} {w : World}
theorem open_digs {v : Value} {d : DataW H} {p : List MemPlace} (hok : ∃ a len cap, v = .slice a len cap) (h : DataW.Trod enc Tryd.prog w 0 (fun _ => true) true 54 v d p) : ∃ ao len cap, ∃ X : List (List UInt8), v = .slice ao len cap ∧ len ≤ maxLen ∧ X.length = len ∧ (∀ x ∈ X, x.length = 32) ∧ DigAt w ao X := by
  obtain ⟨a0, l0, c0, rfl⟩ := hok
  obtain ⟨fuel, hf⟩ := h
  rcases open_slice Tryd.underlying54 hf with ⟨hcs, _⟩ | ⟨a, len, cap, m, n, D, Pl, hcs, hb, hl, hm, hmm, hx, hi⟩
  · simp [Value.cells] at hcs
    obtain ⟨rfl, rfl, rfl⟩ := hcs
    exact ⟨_, _, _, [], rfl, by unfold maxLen; omega, rfl, (fun x hx => by cases hx), fun h => absurd h (by simp)⟩
  · simp [Value.cells] at hcs
    obtain ⟨rfl, rfl, rfl⟩ := hcs
    have hC : Tryd.prog.cellsOf 34 = 32 := by kernel_rfl
    have hs : ∀ i, i < l0 → ∃ x : List UInt8, x.length = 32 ∧ ∀ j, j < 32 → w.cell? (a.add (i * 32 + j)) = some (.int .u8 ((bAt x j).toNat : Int)) := fun i hil => by
      have him : i < m := by rw [hmm]; split <;> omega
      obtain ⟨cs', hc, ht'⟩ := hi i him
      rw [hC] at hc
      obtain ⟨_, hcl, hat⟩ := World.cells?_some hc
      have hz := arr_ints Tryd.underlying34 Tryd.underlying5 (by kernel_rfl) ht'
      refine ⟨(List.range 32).map fun j => match cs'[j]? with | some (Value.int _ z) => UInt8.ofNat z.toNat | _ => 0, by simp, fun j hj => ?_⟩
      obtain ⟨z, h1, h2⟩ := hz j hj
      have h3 := hat j (by omega)
      rw [Go.Deep.add_add] at h3
      have hb : bAt ((List.range 32).map fun j => match cs'[j]? with | some (Value.int _ z) => UInt8.ofNat z.toNat | _ => 0) j = UInt8.ofNat z.toNat := by
        unfold bAt
        rw [List.getElem?_map, List.getElem?_range hj]
        simp only [Option.map_some, Option.getD_some, h1]
      rw [h3, h1, hb, u8_wf h2]
    by_cases h0 : 0 < l0
    · obtain ⟨x0, hx0, hc0⟩ := hs 0 h0
      have hc00 := hc0 0 (by omega)
      obtain ⟨b, off, spot⟩ := a
      have hspot : spot = none := by
        have := World.cell?_spot hc00
        simpa [Addr.add] using this
      subst hspot
      obtain ⟨X, h1, h2⟩ := list_of_ex l0 (fun i (x : List UInt8) => x.length = 32 ∧ ∀ j, j < 32 → w.cell? ((⟨b, off, none⟩ : Addr).add (i * 32 + j)) = some (.int .u8 ((bAt x j).toNat : Int))) hs
      refine ⟨some ⟨b, off, none⟩, l0, c0, X, rfl, by omega, h1, fun x hx => ?_, fun _ => ⟨b, off, rfl, by simpa [Addr.add] using cell_lt' hc00, fun i hi j u hu => ?_⟩⟩
      · obtain ⟨i, hi, rfl⟩ := List.getElem_of_mem hx
        exact (h2 i hi).1
      · have hj : j < 32 := by
          have := (List.getElem?_eq_some_iff.1 hu).1
          unfold bv at this
          rw [List.length_map, (h2 i hi).1] at this
          exact this
        have h3 := (h2 i hi).2 j hj
        rw [Addr.add_lit] at h3
        rw [show off + i * 32 + j = off + (i * 32 + j) from by omega, h3, ← hu]
        have hjx : j < X[i].length := by rw [(h2 i hi).1]; exact hj
        unfold bv bAt
        rw [List.getElem?_map, List.getElem?_eq_getElem hjx]
        rfl
    · have : l0 = 0 := by omega
      subst this
      exact ⟨_, _, _, [], rfl, by unfold maxLen; omega, rfl, fun x hx => (by cases hx), fun h => absurd h (by simp)⟩
end
theorem eql_dig2 (x y : List UInt8) (hx : x.length = 32) (hy : y.length = 32) (w : World) : (binOp .eql 34 (.agg (digA x)) (.agg (digA y))).run Tryd.prog w = .ok (.bool (x == y)) w := by
  by_cases e : x = y
  · subst e
    rw [eql_dig x hx w]
    simp
  · unfold digA
    have ha : ((List.range 32).all fun i => ((bAt x i).toNat : Int) == ((bAt y i).toNat : Int)) = false := by
      rw [List.all_eq_false]
      refine Classical.byContradiction fun hc => e ?_
      apply List.ext_getElem?
      intro i
      by_cases hi : i < 32
      · have h1 : ((bAt x i).toNat : Int) = ((bAt y i).toNat : Int) := Classical.byContradiction fun hn => hc ⟨i, List.mem_range.2 hi, by simpa using hn⟩
        have h2 : bAt x i = bAt y i := UInt8.toNat_inj.1 (by omega)
        unfold bAt at h2
        rw [List.getElem?_eq_getElem (by omega), List.getElem?_eq_getElem (by omega)] at h2 ⊢
        simpa using h2
      · rw [List.getElem?_eq_none (by omega), List.getElem?_eq_none (by omega)]
    have hbx := bv_row x
    have hby := bv_row y
    rw [hx] at hbx
    rw [hy] at hby
    rw [hbx, hby, run_eql_rowb _ _ Tryd.underlying34 Tryd.underlying5 size_b rfl w, ha]
    simp [e]
end Go.Proofs.YtaneecmfgfkaaaaDoor
