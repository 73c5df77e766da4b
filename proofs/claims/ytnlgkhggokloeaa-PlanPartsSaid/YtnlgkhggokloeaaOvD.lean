/- Package over: Puts, Copy, Over. -/
import Derived.Test.YtnlgkhggokloeaaOvC
namespace Go.Proofs.Ytnlgkhggokloeaa
open Go.RowKit Go.Deep
set_option linter.unusedVariables false
set_option linter.unusedSimpArgs false
def puC (ps : List Pu) : List Value := ps.flatMap fun p => [.int .i64 p.1, .string p.2]
theorem puC_len (ps : List Pu) : (puC ps).length = ps.length * 2 := by
  induction ps with
  | nil => rfl
  | cons p r ih => unfold puC at ih ⊢; rw [List.flatMap_cons, List.length_append, ih]; simp; omega
theorem puC_snoc (ps : List Pu) (p : Pu) : puC (ps ++ [p]) = puC ps ++ [.int .i64 p.1, .string p.2] := by
  unfold puC
  rw [List.flatMap_append]
  simp
theorem puC_get (ps : List Pu) : ∀ i (hi : i < ps.length), (puC ps)[i * 2]? = some (.int .i64 ps[i].1) ∧ (puC ps)[i * 2 + 1]? = some (.string ps[i].2) := by
  induction ps with
  | nil => intro i hi; simp at hi
  | cons p r ih =>
    intro i hi
    have e : puC (p :: r) = [.int .i64 p.1, .string p.2] ++ puC r := by unfold puC; rw [List.flatMap_cons]
    rw [e]
    cases i with
    | zero => exact ⟨rfl, rfl⟩
    | succ i =>
      have h := ih i (by simpa using hi)
      rw [show (i + 1) * 2 = i * 2 + 2 by omega]
      exact h
theorem info_putO : (Try.prog.info? 48).map (fun i => (i.zero, i.size, i.bytes)) = some (some (.agg #[.int .i64 0, .string ⟨#[]⟩]), 2, 24) := by kernel_rfl
/-- A row of blocks that grows behind a cell of its own at block l. -/
structure UnP (base l : Nat) (w0 w : World) (xs : List Pu) : Prop where
  row : ∃ v, w.cell? ⟨l, 0, none⟩ = some v ∧ w.ownsRow base 48 2 v xs.length (puC xs)
  free : w.frozen? ⟨l, 0, none⟩ = false
  below : Below l w0 w
  other : ∀ k, k < base → k ≠ l → w.heap[k]? = w0.heap[k]?
  size : base ≤ w.heap.size
section
variable {base l : Nat} {w0 w w1 : World} {xs : List Pu}
theorem UnP.belowW (h : UnP base l w0 w xs) (b : Below w.heap.size w w1) : UnP base l w0 w1 xs := by
  obtain ⟨v, hc, ho⟩ := h.row
  have hll : l < w.heap.size := block_lt_of_cell hc
  refine ⟨⟨v, (b.cell (p := ⟨l, 0, none⟩) hll).trans hc, ?_⟩, (b.frozen (p := ⟨l, 0, none⟩) hll).trans h.free, h.below.trans (b.mono (Nat.le_of_lt hll)), fun k hk hn => (b.block k (Nat.lt_of_lt_of_le hk h.size)).trans (h.other k hk hn), Nat.le_trans h.size b.size⟩
  refine ⟨ho.1, ?_⟩
  rcases ho.2 with h | ⟨g2, cap, cur, rfl, q1, q2, q3⟩
  · exact Or.inl h
  · exact Or.inr ⟨g2, cap, cur, rfl, q1, (b.block g2 (Array.getElem?_eq_some_iff.1 q2).1).trans q2, q3⟩
theorem UnP.push {v v' : Value} {x : Pu} {o : Obj} (hU : UnP base l w0 w xs) (hl : l < base) (hv : w.cell? ⟨l, 0, none⟩ = some v) (ho : w.ownsRow base 48 2 v xs.length (puC xs)) (hown : w1.ownsRow base 48 2 v' (xs.length + 1) (puC xs ++ [.int .i64 x.1, .string x.2])) (hg : (w.alloc o).grownBy w1 v.ownBlock) :
    w1.cell? ⟨l, 0, none⟩ = some v ∧ w1.frozen? ⟨l, 0, none⟩ = false ∧ UnP base l w0 (w1.setCell ⟨l, 0, none⟩ v') (xs ++ [x]) := by
  have hvl : v.ownBlock ≠ some l := fun e => by have := (ho.lt l e).1; omega
  have hvl' : v'.ownBlock ≠ some l := fun e => by have := (hown.lt l e).1; omega
  have hll : l < w.heap.size := block_lt_of_cell hv
  have hB := ((Below.refl w.heap.size w).alloc (Nat.le_refl _) o)
  have c1 : (w.alloc o).cell? ⟨l, 0, none⟩ = some v := (hB.cell (p := ⟨l, 0, none⟩) hll).trans hv
  have f1 : (w.alloc o).frozen? ⟨l, 0, none⟩ = false := (hB.frozen (p := ⟨l, 0, none⟩) hll).trans hU.free
  have hla : l < (w.alloc o).heap.size := by simp; omega
  have c2 : w1.cell? ⟨l, 0, none⟩ = some v := (hg.cell_far ⟨l, 0, none⟩ hla (fun e => hvl e.symm)).trans c1
  have f2 : w1.frozen? ⟨l, 0, none⟩ = false := (hg.frozen_far ⟨l, 0, none⟩ hla (fun e => hvl e.symm)).trans f1
  have hsz : w.heap.size ≤ w1.heap.size := by have := hg.size; simp at this; omega
  refine ⟨c2, f2, ⟨v', World.cell?_setCell_same _ _ _ c2, ?_⟩, by rw [World.frozen?_setCell]; exact f2, ?_, fun k hk hn => ?_, ?_⟩
  · rw [List.length_append, puC_snoc]
    exact hown.kept (grown_setO w1 l v') (Or.inr hvl')
  · have b1 : Below l w0 (w.alloc o) := hU.below.alloc (Nat.le_of_lt hll) o
    exact ((b1.grown hg (by simp; omega) (fun j e => by have := (ho.lt j e).1; omega)).setCell (p := ⟨l, 0, none⟩) (Nat.le_refl _) v')
  · have hkw : k < w.heap.size := Nat.lt_of_lt_of_le hk hU.size
    rw [Below.heap_setCell w1 ⟨l, 0, none⟩ v' k hn]
    exact (hg.block k (by simp; omega) (fun e => by have := (ho.lt k e.symm).1; omega)).trans ((hB.block k hkw).trans (hU.other k hk hn))
  · have := hU.size
    simp [World.setCell]
    omega
end
/-- What a row of blocks is, as a result. -/
def PuO (N : Nat) (w : World) (v : Value) (L : List Pu) : Prop := w.ownsRow N 48 2 v L.length (puC L)
theorem take_snoc {α : Type} (L : List α) (i : Nat) (hi : i < L.length) : L.take (i + 1) = L.take i ++ [L[i]] := by rw [List.take_succ_eq_append_getElem hi]
theorem own_baseO {w : World} {B C size n : Nat} {e : TypeId} {v : Value} {xs : List Value} (h : w.ownsRow B e size v n xs) (hc : C ≤ B) : w.ownsRow C e size v n xs := by
  refine ⟨h.1, ?_⟩
  rcases h.2 with hh | ⟨g2, cap, cur, rfl, q1, q⟩
  · exact Or.inl hh
  · exact Or.inr ⟨g2, cap, cur, rfl, Nat.le_trans hc q1, q⟩
theorem ins_last {x : Pu} : ∀ {L : List Pu}, (∀ y ∈ L, y.1 < x.1) → insL x L = L ++ [x]
  | [], _ => rfl
  | y :: r, h => by
    have h1 := h y (by simp)
    unfold insL
    rw [if_neg (by omega), ins_last (fun z hz => h z (by simp [hz]))]
    rfl
theorem set_last {x : Pu} {L : List Pu} (h : ∀ y ∈ L, y.1 < x.1) : setL L x = L ++ [x] := by
  unfold setL
  have : delL L x.1 = L := by
    unfold delL
    rw [List.filter_eq_self]
    intro y hy
    have := h y hy
    simp
    omega
  rw [this]
  exact ins_last h
def setAll (M L : List Pu) : List Pu := L.foldl setL M
theorem setAll_snoc (M L : List Pu) (x : Pu) : setAll M (L ++ [x]) = setL (setAll M L) x := by unfold setAll; rw [List.foldl_append]; rfl
theorem setAll_len (M : List Pu) : ∀ (L : List Pu), (setAll M L).length ≤ M.length + L.length := by
  intro L
  induction L generalizing M with
  | nil => exact Nat.le_refl _
  | cons x r ih =>
    show (setAll (setL M x) r).length ≤ _
    have h1 := ih (setL M x)
    have h2 := setL_len M x
    simp only [List.length_cons]
    omega
theorem setAll_srt {L : List Pu} (h : Srt L) : setAll [] L = L := by
  have : ∀ i, i ≤ L.length → setAll [] (L.take i) = L.take i := by
    intro i
    induction i with
    | zero => intro _; rfl
    | succ i ih =>
      intro hi
      rw [take_snoc L i (by omega), setAll_snoc, ih (by omega)]
      refine set_last (fun y hy => ?_)
      obtain ⟨j, hj, e⟩ := List.getElem_of_mem hy
      have hj' : j < i := by rw [List.length_take] at hj; omega
      have hp := List.pairwise_iff_getElem.1 h j i (by omega) (by omega) hj'
      rw [List.getElem_take] at e
      rw [← e]
      exact hp
  have := this L.length (Nat.le_refl _)
  rwa [List.take_length] at this
end Go.Proofs.Ytnlgkhggokloeaa
