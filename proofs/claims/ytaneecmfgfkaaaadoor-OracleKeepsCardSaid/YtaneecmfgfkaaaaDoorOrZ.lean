/- An oracle beside a row of one's own that grows. -/
import Derived.Test.YtaneecmfgfkaaaaDoorOrY
namespace Go.Proofs.YtaneecmfgfkaaaaDoor
open Go.RowKit Go.Deep Go.Maps
set_option linter.unusedVariables false
set_option linter.unusedSimpArgs false
theorem OrP.grown {base : Nat} {w w' : World} {g : Nat} {l : List (List UInt8)} {tv sv : Value} {b : Nat} {D : DataW Unit} (h : OrP base w g l tv sv b D) {row : Option Nat} (hg : w.grownBy w' row) (h1 : some g ≠ row) (h2 : some b ≠ row) (h3 : tv.ownBlock = none ∨ tv.ownBlock ≠ row) (h4 : sv.ownBlock = none ∨ sv.ownBlock ≠ row) : OrP base w' g l tv sv b D :=
  ⟨h.hb, (hg.block g (Array.getElem?_eq_some_iff.1 h.hg).1 h1).trans h.hg, own_grown h.ht hg h3, own_grown h.hs hg h4, by
    obtain ⟨es, clock, hb0, F, hs, hD⟩ := h.hm
    exact ⟨es, clock, (hg.block b (Array.getElem?_eq_some_iff.1 hb0).1 h2).trans hb0, F, hs, hD⟩, h.hbb, h.ix, h.nd⟩
theorem OrX.grown {base : Nat} {w w' : World} {o : Option Addr} {X : Option OrS} (h : OrX base w o X) {row : Option Nat} (hg : w.grownBy w' row) (hf : ∀ k, row = some k → FreeX X k) : OrX base w' o X := by
  match o, X, h with
  | none, none, h => exact Nat.le_trans h hg.size
  | some a, some S, h =>
    refine ⟨h.1, h.2.grown hg ?_ ?_ ?_ ?_⟩
    · intro e
      exact (hf _ e.symm S rfl).1 rfl
    · intro e
      exact (hf _ e.symm S rfl).2.1 rfl
    · by_cases e : S.tv.ownBlock = none
      · exact Or.inl e
      · refine Or.inr fun e2 => ?_
        obtain ⟨k, hk⟩ := Option.ne_none_iff_exists'.1 e
        exact (hf k (e2.symm.trans hk) S rfl).2.2.1 hk
    · by_cases e : S.sv.ownBlock = none
      · exact Or.inl e
      · refine Or.inr fun e2 => ?_
        obtain ⟨k, hk⟩ := Option.ne_none_iff_exists'.1 e
        exact (hf k (e2.symm.trans hk) S rfl).2.2.2 hk
/-- A row of one's own that is none of the oracle's. -/
def FreeV (X : Option OrS) (v : Value) : Prop := ∀ k, v.ownBlock = some k → FreeX X k
theorem FreeV.nil (X : Option OrS) : FreeV X (.slice none 0 0) := fun k e => by cases e
theorem own_kept {w w' : World} {base n size : Nat} {e : TypeId} {v : Value} {xs : List Value} {X X' : Option OrS} (h : w.ownsRow base e size v n xs) (hk : KeptX w w' X X') (hf : FreeV X v) : w'.ownsRow base e size v n xs := by
  refine ⟨h.1, ?_⟩
  rcases h.2 with q | ⟨g, cap, cur, rfl, q1, q2, q3⟩
  · exact Or.inl q
  · exact Or.inr ⟨g, cap, cur, rfl, q1, hk.keep _ _ q2 (hf g rfl), q3⟩
theorem freeV_kept {w w' : World} {base n size : Nat} {e : TypeId} {v : Value} {xs : List Value} {X X' : Option OrS} (h : w.ownsRow base e size v n xs) (hk : KeptX w w' X X') (hf : FreeV X v) : FreeV X' v := fun k e1 => by
  rcases h.2 with ⟨rfl, _⟩ | ⟨g, cap, cur, rfl, q1, q2, q3⟩
  · cases e1
  · cases e1
    exact hk.free _ (Array.getElem?_eq_some_iff.1 q2).1 (hf _ rfl)
/-- Behind an append: the row is where it was, or in a new block. -/
theorem freeV_app {base : Nat} {w : World} {o : Option Addr} {X : Option OrS} {v v' : Value} (h : OrX base w o X) (hf : FreeV X v) (ha : ∀ k, v'.ownBlock = some k → v.ownBlock = some k ∨ w.heap.size ≤ k) : FreeV X v' := fun k e => by
  rcases ha k e with q | q
  · exact hf k q
  · exact h.free k q
end Go.Proofs.YtaneecmfgfkaaaaDoor
