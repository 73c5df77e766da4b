/- Package over: arguments opened. -/
import Derived.Test.YtbjlmpcbjppfdaaOvG
import Derived.Test.YtbjlmpcbjppfdaaOpenR
import Derived.OpenShut
import Derived.ChangeArms
namespace Go.Proofs.Ytbjlmpcbjppfdaa
open Go.ChangeShapes Go.WideShapes Go.Deep Go.RowKit
set_option linter.unusedVariables false
set_option linter.unusedSimpArgs false
theorem list_of_ex {α : Type} : ∀ (n : Nat) (p : Nat → α → Prop), (∀ i, i < n → ∃ x, p i x) → ∃ X : List α, X.length = n ∧ ∀ i (h : i < X.length), p i X[i]
  | 0, p, _ => ⟨[], rfl, fun i h => absurd h (Nat.not_lt_zero _)⟩
  | n + 1, p, h => by
    obtain ⟨X, h1, h2⟩ := list_of_ex n p (fun i hi => h i (by omega))
    obtain ⟨x, hx⟩ := h n (by omega)
    refine ⟨X ++ [x], by simp [h1], fun i hi => ?_⟩
    by_cases e : i < X.length
    · rw [List.getElem_append_left e]; exact h2 i e
    · have : i = n := by simp at hi; omega
      subst this
      rw [List.getElem_append_right (by omega)]
      simpa [h1] using hx
theorem inI_of {a : Int} (h : (Lit.int .i64 a).wf = true) : InI a := by
  have : decide (-9223372036854775808 ≤ a) && decide (a ≤ 9223372036854775807) := h
  simpa [InI] using this
theorem put_fieldsO : ∃ f0 f1, Try.prog.underlying 29 = some (.struct #[f0, f1]) ∧ (f0.type = 3 ∧ f0.offset = 0) ∧ (f1.type = 9 ∧ f1.offset = 1) :=
  ⟨_, _, Try.underlying29, ⟨rfl, rfl⟩, ⟨rfl, rfl⟩⟩
theorem act_fieldsO : ∃ f0 f1, Try.prog.underlying 31 = some (.struct #[f0, f1]) ∧ (f0.type = 3 ∧ f0.offset = 0) ∧ (f1.type = 29 ∧ f1.offset = 1) :=
  ⟨_, _, Try.underlying31, ⟨rfl, rfl⟩, ⟨rfl, rfl⟩⟩
/-- A row of acts: a kind and a block each. -/
def AcAt (w : World) (ao : Option Addr) (n : Nat) (As : List (Int × Pu)) : Prop := As.length = n ∧ (∀ x ∈ As, InI x.2.1) ∧ (0 < n → ∃ g o, ao = some ⟨g, o, none⟩ ∧ g < w.heap.size ∧ ∀ i (hi : i < As.length), w.cell? ⟨g, o + i * 3, none⟩ = some (.int .i64 As[i].1) ∧ w.cell? ⟨g, o + i * 3 + 1, none⟩ = some (.int .i64 As[i].2.1) ∧ w.cell? ⟨g, o + i * 3 + 2, none⟩ = some (.string As[i].2.2))
theorem AcAt.below {w w' : World} {ao : Option Addr} {n : Nat} {As : List (Int × Pu)} (h : AcAt w ao n As) (b : Below w.heap.size w w') : AcAt w' ao n As := ⟨h.1, h.2.1, fun hp => by
  obtain ⟨g, o, e, hg, hc⟩ := h.2.2 hp
  exact ⟨g, o, e, Nat.lt_of_lt_of_le hg b.size, fun i hi => ⟨(b.cell (p := ⟨g, o + i * 3, none⟩) hg).trans (hc i hi).1, (b.cell (p := ⟨g, o + i * 3 + 1, none⟩) hg).trans (hc i hi).2.1, (b.cell (p := ⟨g, o + i * 3 + 2, none⟩) hg).trans (hc i hi).2.2⟩⟩⟩
section
variable {H : Type} {enc : TypeId × Value → H} {w : World}
/-- One block, from its cells. -/
theorem put_cells {n : Nat} {cs : List Value} {y : DataW H × List MemPlace} (h : DataW.trod enc Try.prog w 0 (fun _ => true) true n 29 cs = some y) : cs.length = 2 ∧ ∃ x : Pu, cs[0]? = some (.int .i64 x.1) ∧ cs[1]? = some (.string x.2) ∧ InI x.1 := by
  obtain ⟨f0, f1, hs, ⟨t0, o0⟩, ⟨t1, o1⟩⟩ := put_fieldsO
  obtain ⟨ys, n2, hn', hy, hlen, hyl, hf'⟩ := DataW.trod_struct hs h
  have hcl : cs.length = 2 := hlen.trans (by kernel_rfl)
  have hyl2 : ys.length = 2 := hyl
  obtain ⟨y0, g0⟩ : ∃ y, ys[0]? = some y := ⟨_, List.getElem?_eq_getElem (by omega)⟩
  obtain ⟨y1, g1⟩ : ∃ y, ys[1]? = some y := ⟨_, List.getElem?_eq_getElem (by omega)⟩
  have k0 := hf' 0 f0 rfl
  have k1 := hf' 1 f1 rfl
  rw [t0, o0, g0, show Try.prog.cellsOf 3 = 1 from by kernel_rfl, take_one _ _ (by omega)] at k0
  rw [t1, o1, g1, show Try.prog.cellsOf 9 = 1 from by kernel_rfl, take_one _ _ (by omega)] at k1
  obtain ⟨z, hz, hw⟩ := field_int Try.underlying3 k0
  obtain ⟨s, hs'⟩ := field_str Try.underlying9 k1
  exact ⟨hcl, (z, s), by rw [List.getElem?_eq_getElem (by omega), hz], by rw [List.getElem?_eq_getElem (by omega), hs'], inI_of hw⟩
theorem open_puO {v : Value} {d : DataW H} {p : List MemPlace} (hok : ∃ a len cap, v = .slice a len cap) (hh : DataW.Trod enc Try.prog w 0 (fun _ => true) true 25 v d p) :
    ∃ (ao : Option Addr) (len cap : Nat) (ps : List Pu), v = .slice ao len cap ∧ len ≤ cap ∧ cap ≤ maxLen ∧ ps.length = len ∧ PuAt w ao ps ∧ Wf ps := by
  obtain ⟨a', len', cap', rfl⟩ := hok
  obtain ⟨n, h⟩ := hh
  have ec : (Value.slice a' len' cap').cells.toList = [.slice a' len' cap'] := by simp [Value.cells]
  rw [ec] at h
  rcases open_slice Try.underlying25 h with ⟨hcs, _⟩ | ⟨a, len, cap, m, n', D, Pl, hcs, hb, hl, hm, hmm, hx, hi⟩
  · simp at hcs
    obtain ⟨rfl, rfl, rfl⟩ := hcs
    exact ⟨none, 0, 0, [], rfl, by omega, by unfold maxLen; omega, rfl, fun h => by simp at h, fun x hx => by simp at hx⟩
  · simp at hcs
    obtain ⟨rfl, rfl, rfl⟩ := hcs
    have hp : ∀ i, i < len' → ∃ x : Pu, w.cell? (a.add (i * 2 + 0)) = some (.int .i64 x.1) ∧ w.cell? (a.add (i * 2 + 1)) = some (.string x.2) ∧ InI x.1 := fun i hil => by
      have him : i < m := by rw [hmm]; split <;> omega
      obtain ⟨cs', hc, ht'⟩ := hi i him
      rw [show Try.prog.cellsOf 29 = 2 from by kernel_rfl] at hc
      obtain ⟨_, hcl, hat⟩ := World.cells?_some hc
      obtain ⟨_, x, h0, h1, hw⟩ := put_cells ht'
      refine ⟨x, ?_, ?_, hw⟩
      · rw [← Go.Deep.add_add, hat 0 (by omega)]; exact h0
      · rw [← Go.Deep.add_add, hat 1 (by omega)]; exact h1
    by_cases h0 : 0 < len'
    · obtain ⟨x0, c0, _⟩ := hp 0 h0
      obtain ⟨b, off, spot⟩ := a
      have hspot : spot = none := by
        have := World.cell?_spot c0
        simpa [Addr.add] using this
      subst hspot
      obtain ⟨ps, h1, h2⟩ := list_of_ex len' (fun i (x : Pu) => w.cell? ((⟨b, off, none⟩ : Addr).add (i * 2 + 0)) = some (.int .i64 x.1) ∧ w.cell? ((⟨b, off, none⟩ : Addr).add (i * 2 + 1)) = some (.string x.2) ∧ InI x.1) hp
      refine ⟨_, _, _, ps, rfl, hl, hm, h1, fun _ => ⟨b, off, rfl, by simpa [Addr.add] using block_lt_of_cell c0, fun i hil => ?_⟩, fun x hx => ?_⟩
      · have h3 := h2 i hil
        rw [Addr.add_lit, Addr.add_lit] at h3
        exact ⟨h3.1, h3.2.1⟩
      · obtain ⟨i, hi', rfl⟩ := List.getElem_of_mem hx
        exact (h2 i hi').2.2
    · obtain rfl : len' = 0 := by omega
      exact ⟨_, _, _, [], rfl, hl, hm, rfl, fun h => by simp at h, fun x hx => by simp at hx⟩
theorem open_actsO {v : Value} {d : DataW H} {p : List MemPlace} (hok : ∃ a len cap, v = .slice a len cap) (hh : DataW.Trod enc Try.prog w 0 (fun _ => true) true 22 v d p) :
    ∃ (ao : Option Addr) (len cap : Nat) (As : List (Int × Pu)), v = .slice ao len cap ∧ len ≤ cap ∧ cap ≤ maxLen ∧ AcAt w ao len As := by
  obtain ⟨a', len', cap', rfl⟩ := hok
  obtain ⟨n, h⟩ := hh
  have ec : (Value.slice a' len' cap').cells.toList = [.slice a' len' cap'] := by simp [Value.cells]
  rw [ec] at h
  rcases open_slice Try.underlying22 h with ⟨hcs, _⟩ | ⟨a, len, cap, m, n', D, Pl, hcs, hb, hl, hm, hmm, hx, hi⟩
  · simp at hcs
    obtain ⟨rfl, rfl, rfl⟩ := hcs
    exact ⟨none, 0, 0, [], rfl, by omega, by unfold maxLen; omega, rfl, fun x hx => by simp at hx, fun h => absurd h (by omega)⟩
  · simp at hcs
    obtain ⟨rfl, rfl, rfl⟩ := hcs
    obtain ⟨f0, f1, hs, ⟨t0, o0⟩, ⟨t1, o1⟩⟩ := act_fieldsO
    have hp : ∀ i, i < len' → ∃ x : Int × Pu, w.cell? (a.add (i * 3 + 0)) = some (.int .i64 x.1) ∧ w.cell? (a.add (i * 3 + 1)) = some (.int .i64 x.2.1) ∧ w.cell? (a.add (i * 3 + 2)) = some (.string x.2.2) ∧ InI x.2.1 := fun i hil => by
      have him : i < m := by rw [hmm]; split <;> omega
      obtain ⟨cs', hc, ht'⟩ := hi i him
      rw [show Try.prog.cellsOf 31 = 3 from by kernel_rfl] at hc
      obtain ⟨_, hcl, hat⟩ := World.cells?_some hc
      obtain ⟨ys, n2, hn', hy, hlen, hyl, hf'⟩ := DataW.trod_struct hs ht'
      have hyl2 : ys.length = 2 := hyl
      obtain ⟨y0, g0⟩ : ∃ y, ys[0]? = some y := ⟨_, List.getElem?_eq_getElem (by omega)⟩
      obtain ⟨y1, g1⟩ : ∃ y, ys[1]? = some y := ⟨_, List.getElem?_eq_getElem (by omega)⟩
      have k0 := hf' 0 f0 rfl
      have k1 := hf' 1 f1 rfl
      rw [t0, o0, g0, show Try.prog.cellsOf 3 = 1 from by kernel_rfl, take_one _ _ (by omega)] at k0
      rw [t1, o1, g1, show Try.prog.cellsOf 29 = 2 from by kernel_rfl] at k1
      obtain ⟨z, hz, _⟩ := field_int Try.underlying3 k0
      obtain ⟨_, x, h0, h1, hw⟩ := put_cells k1
      rw [List.getElem?_take, if_pos (by omega), List.getElem?_drop] at h0 h1
      refine ⟨(z, x), ?_, ?_, ?_, hw⟩
      · rw [← Go.Deep.add_add, hat 0 (by omega), List.getElem?_eq_getElem (by omega), hz]
      · rw [← Go.Deep.add_add, hat 1 (by omega)]; exact h0
      · rw [← Go.Deep.add_add, hat 2 (by omega)]; exact h1
    by_cases h0 : 0 < len'
    · obtain ⟨x0, c0, _⟩ := hp 0 h0
      obtain ⟨b, off, spot⟩ := a
      have hspot : spot = none := by
        have := World.cell?_spot c0
        simpa [Addr.add] using this
      subst hspot
      obtain ⟨ps, h1, h2⟩ := list_of_ex len' (fun i (x : Int × Pu) => w.cell? ((⟨b, off, none⟩ : Addr).add (i * 3 + 0)) = some (.int .i64 x.1) ∧ w.cell? ((⟨b, off, none⟩ : Addr).add (i * 3 + 1)) = some (.int .i64 x.2.1) ∧ w.cell? ((⟨b, off, none⟩ : Addr).add (i * 3 + 2)) = some (.string x.2.2) ∧ InI x.2.1) hp
      refine ⟨_, _, _, ps, rfl, hl, hm, h1, fun x hx => ?_, fun _ => ⟨b, off, rfl, by simpa [Addr.add] using block_lt_of_cell c0, fun i hil => ?_⟩⟩
      · obtain ⟨i, hi', rfl⟩ := List.getElem_of_mem hx
        exact (h2 i hi').2.2.2
      · have h3 := h2 i hil
        rw [Addr.add_lit, Addr.add_lit, Addr.add_lit] at h3
        exact ⟨h3.1, h3.2.1, h3.2.2.1⟩
    · obtain rfl : len' = 0 := by omega
      exact ⟨_, _, _, [], rfl, hl, hm, rfl, fun x hx => by simp at hx, fun h => absurd h (by omega)⟩
theorem open_putO {r : Reach} {b0 : Nat} {v : Value} {d : DataW H} {p : List MemPlace} (hok : Value.okWide Try.prog w r b0 29 v) (h : DataW.Trod enc Try.prog w 0 (fun _ => true) true 29 v d p) : ∃ x : Pu, v = putV x ∧ InI x.1 := by
  obtain ⟨f0, f1, hs, _⟩ := put_fieldsO
  obtain ⟨cs, rfl, hsz⟩ := okWide_struct hs hok
  obtain ⟨l⟩ := cs
  obtain ⟨fuel, hf⟩ := h
  have e0 : (Value.agg ⟨l⟩).cells.toList = l := by simp [Value.cells]
  rw [e0] at hf
  obtain ⟨hl, x, h0, h1, hw⟩ := put_cells hf
  refine ⟨x, ?_, hw⟩
  unfold putV
  congr 1
  apply Array.ext_getElem?
  intro i
  rw [List.getElem?_toArray]
  rcases i with _ | _ | i
  · exact h0
  · exact h1
  · rw [List.getElem?_eq_none (by omega)]; rfl
end
end Go.Proofs.Ytbjlmpcbjppfdaa
