/- Package dev (cellaret): Unsafe. -/
import Derived.Test.YtjmginkkjkbpoaaDvD
namespace Go.Proofs.Ytjmginkkjkbpoaa
open Go.RowKit Go.Deep
set_option linter.unusedVariables false
set_option linter.unusedSimpArgs false
theorem info_i64D : (Try.prog.info? 3).map (fun i => (i.zero, i.size, i.bytes)) = some (some (.int .i64 0), 1, 8) := by kernel_rfl
theorem own_belowD {w w' : World} {base n size : Nat} {e : TypeId} {v : Value} {xs : List Value} (h3 : w.ownsRow base e size v n xs) (hb : Below w.heap.size w w') : w'.ownsRow base e size v n xs := by
  refine ⟨h3.1, ?_⟩
  rcases h3.2 with h | ⟨g2, cap, cur, rfl, q1, q2, q3⟩
  · exact Or.inl h
  · exact Or.inr ⟨g2, cap, cur, rfl, q1, (hb.block g2 (Array.getElem?_eq_some_iff.1 q2).1).trans q2, q3⟩
/-- The blocks among the first k that were written, as values. -/
def uL (bs : Nat → Bk) : Nat → List Value
  | 0 => []
  | k + 1 => if (bs k).wr = true then uL bs k ++ [.int .i64 (k : Int)] else uL bs k
theorem uL_len (bs : Nat → Bk) (k : Nat) : (uL bs k).length ≤ k := by
  induction k with
  | zero => exact Nat.le_refl _
  | succ k ih =>
    show (if (bs k).wr = true then uL bs k ++ [.int .i64 (k : Int)] else uL bs k).length ≤ _
    split
    · rw [List.length_append]; simp; omega
    · omega
/-- A row that grows behind a cell of its own at block l. -/
structure UnAtD (base l : Nat) (w0 w : World) (xs : List Value) : Prop where
  row : ∃ v, w.cell? ⟨l, 0, none⟩ = some v ∧ w.ownsRow base 3 1 v xs.length xs
  free : w.frozen? ⟨l, 0, none⟩ = false
  below : Below l w0 w
  other : ∀ k, k < base → k ≠ l → w.heap[k]? = w0.heap[k]?
  size : base ≤ w.heap.size
theorem own_slD {w : World} {base n size : Nat} {e : TypeId} {v : Value} {xs : List Value} (h : w.ownsRow base e size v n xs) : ∃ a c, v = .slice a n c := by
  rcases h.2 with ⟨rfl, rfl⟩ | ⟨g, cap, cur, rfl, hb, hg, hnc, hcm, _⟩
  · exact ⟨none, 0, rfl⟩
  · exact ⟨some ⟨g, 0, none⟩, cap, rfl⟩
theorem grown_setD (w : World) (l : Nat) (v : Value) : w.grownBy (w.setCell ⟨l, 0, none⟩ v) (some l) :=
  ⟨rfl, rfl, rfl, by simp [World.setCell], fun k hk hn => Below.heap_setCell w ⟨l, 0, none⟩ v k (fun e => hn (by rw [show k = l from e]))⟩
theorem UnAtD.push {base l : Nat} {w0 w w1 : World} {xs : List Value} {v v' x : Value} {o : Obj} (hU : UnAtD base l w0 w xs) (hl : l < base) (hv : w.cell? ⟨l, 0, none⟩ = some v) (ho : w.ownsRow base 3 1 v xs.length xs) (hown : w1.ownsRow base 3 1 v' (xs.length + 1) (xs ++ [x])) (hg : (w.alloc o).grownBy w1 v.ownBlock) :
    w1.cell? ⟨l, 0, none⟩ = some v ∧ w1.frozen? ⟨l, 0, none⟩ = false ∧ UnAtD base l w0 (w1.setCell ⟨l, 0, none⟩ v') (xs ++ [x]) := by
  have hvl : v.ownBlock ≠ some l := fun e => by have := (ho.lt l e).1; omega
  have hvl' : v'.ownBlock ≠ some l := fun e => by have := (hown.lt l e).1; omega
  have hll := block_lt_of_cell hv
  have hll : l < w.heap.size := hll
  have hB := ((Below.refl w.heap.size w).alloc (Nat.le_refl _) o)
  have c1 : (w.alloc o).cell? ⟨l, 0, none⟩ = some v := (hB.cell (p := ⟨l, 0, none⟩) hll).trans hv
  have f1 : (w.alloc o).frozen? ⟨l, 0, none⟩ = false := (hB.frozen (p := ⟨l, 0, none⟩) hll).trans hU.free
  have hla : l < (w.alloc o).heap.size := by simp; omega
  have c2 : w1.cell? ⟨l, 0, none⟩ = some v := (hg.cell_far ⟨l, 0, none⟩ hla (fun e => hvl e.symm)).trans c1
  have f2 : w1.frozen? ⟨l, 0, none⟩ = false := (hg.frozen_far ⟨l, 0, none⟩ hla (fun e => hvl e.symm)).trans f1
  have hsz : w.heap.size ≤ w1.heap.size := by have := hg.size; simp at this; omega
  refine ⟨c2, f2, ⟨v', World.cell?_setCell_same _ _ _ c2, ?_⟩, by rw [World.frozen?_setCell]; exact f2, ?_, fun k hk hn => ?_, ?_⟩
  · rw [List.length_append]
    exact hown.kept (grown_setD w1 l v') (Or.inr hvl')
  · have b1 : Below l w0 (w.alloc o) := hU.below.alloc (Nat.le_of_lt hll) o
    exact ((b1.grown hg (by simp; omega) (fun j e => by have := (ho.lt j e).1; omega)).setCell (p := ⟨l, 0, none⟩) (Nat.le_refl _) v')
  · have hkw : k < w.heap.size := Nat.lt_of_lt_of_le hk hU.size
    rw [Below.heap_setCell w1 ⟨l, 0, none⟩ v' k hn]
    exact (hg.block k (by simp; omega) (fun e => by have := (ho.lt k e.symm).1; omega)).trans ((hB.block k hkw).trans (hU.other k hk hn))
  · have := hU.size
    simp [World.setCell]
    omega
end Go.Proofs.Ytjmginkkjkbpoaa
