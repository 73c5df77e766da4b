/- An oracle that may be nil: many sums (layers 14, 17). -/
import Derived.Test.YtaneecmfgfkaaaaDoorOrX
namespace Go.Proofs.YtaneecmfgfkaaaaDoor
open Go.RowKit Go.Deep Go.Maps
set_option linter.unusedVariables false
set_option linter.unusedSimpArgs false
theorem KeptX.cell {w w' : World} {X X' : Option OrS} (h : KeptX w w' X X') {p : Addr} {v : Value} (hp : w.cell? p = some v) (hf : FreeX X p.block) : w'.cell? p = some v := by
  have hlt := block_lt_of_cell hp
  have h1 : w.heap[p.block]? = some w.heap[p.block] := Array.getElem?_eq_getElem hlt
  have h2 := h.keep _ _ h1 hf
  exact (World.cell?_of_block (w := w) (h2.trans h1.symm)).trans hp
/-- All that was summed on the way. -/
structure SumsX (X X' : Option OrS) (T : List (List UInt8)) : Prop where
  no : X = none → X' = none
  so : ∀ S, X = some S → ∃ S', X' = some S' ∧ S'.g = S.g ∧ (∀ t, t ∈ S'.l ↔ t ∈ S.l ∨ t ∈ T) ∧ S'.l.length ≤ S.l.length + T.length
theorem SumsX.refl (X : Option OrS) : SumsX X X [] := ⟨id, fun S e => ⟨S, e, rfl, fun t => by simp, by simp⟩⟩
theorem SumsX.snoc {X X1 X2 : Option OrS} {T : List (List UInt8)} {t : List UInt8} (h : SumsX X X1 T) (h' : SumX X1 X2 t) : SumsX X X2 (T ++ [t]) :=
  ⟨fun e => h'.1 (h.no e), fun S e => by
    obtain ⟨S1, e1, g1, m1, l1⟩ := h.so S e
    obtain ⟨S2, e2, g2, hl⟩ := h'.2 S1 e1
    refine ⟨S2, e2, g2.trans g1, fun x => ?_, ?_⟩
    · rw [hl, mem_orNext, m1]
      simp [or_assoc]
    · rw [hl]
      have := orNext_len S1.l t
      simp
      omega⟩
theorem SumsX.few {X X' : Option OrS} {T : List (List UInt8)} {n : Nat} (h : SumsX X X' T) (hn : FewX X n) : FewX X' (n + T.length) := fun S' e => by
  cases X with
  | none => rw [h.no rfl] at e; cases e
  | some S =>
    obtain ⟨S2, e2, _, _, hl⟩ := h.so S rfl
    rw [e2] at e
    cases e
    have := hn S rfl
    omega
theorem SumsX.trans {X X1 X2 : Option OrS} {T T' : List (List UInt8)} (h : SumsX X X1 T) (h' : SumsX X1 X2 T') : SumsX X X2 (T ++ T') :=
  ⟨fun e => h'.no (h.no e), fun S e => by
    obtain ⟨S1, e1, g1, m1, l1⟩ := h.so S e
    obtain ⟨S2, e2, g2, m2, l2⟩ := h'.so S1 e1
    refine ⟨S2, e2, g2.trans g1, fun x => ?_, by simp; omega⟩
    rw [m2, m1]
    simp [or_assoc]⟩
theorem FewX.mono {X : Option OrS} {n m : Nat} (h : FewX X n) (hm : n ≤ m) : FewX X m := fun S e => Nat.le_trans (h S e) hm
theorem SumsX.mem {X X' : Option OrS} {T : List (List UInt8)} (h : SumsX X X' T) {S S' : OrS} (e : X = some S) (e' : X' = some S') (t : List UInt8) (ht : t ∈ S.l ∨ t ∈ T) : t ∈ S'.l := by
  obtain ⟨S2, e2, _, hm, _⟩ := h.so S e
  rw [e'] at e2
  cases e2
  exact (hm t).2 ht
theorem FewX.zero (w : World) (g b : Nat) (tv sv : Value) (D : DataW Unit) : FewX (some ⟨g, [], tv, sv, b, D⟩) 0 := fun S e => by cases e; exact Nat.le_refl _
theorem FewX.none (n : Nat) : FewX none n := fun _ e => by cases e
/-- A new oracle. -/
theorem new_x (base : Nat) (w : World) (hb : base ≤ w.heap.size) : Calls Tryd.prog 9 #[] w fun e w' => e = .returned (.pointer (some ⟨w.heap.size + 1, 0, none⟩)) ∧ OrX base w' (some ⟨w.heap.size + 1, 0, none⟩) (some ⟨w.heap.size + 1, [], .slice none 0 0, .slice none 0 0, w.heap.size, .map []⟩) ∧ Below w.heap.size w w' :=
  (orNew_any base w hb).mono fun e w' ⟨h1, h2, h3⟩ => ⟨h1, ⟨rfl, h2⟩, h3⟩
end Go.Proofs.YtaneecmfgfkaaaaDoor
