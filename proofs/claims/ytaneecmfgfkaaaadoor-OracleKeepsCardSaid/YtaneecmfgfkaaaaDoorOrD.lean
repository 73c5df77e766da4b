/- The oracle: Sum of a text that is not kept yet. -/
import Derived.Test.YtaneecmfgfkaaaaDoorOrC
import Derived.Test.YtaneecmfgfkaaaaDoorSpC
import Derived.Great.BuildSlice
namespace Go.Proofs.YtaneecmfgfkaaaaDoor
open Go.RowKit Go.Deep Go.Maps
set_option linter.unusedVariables false
set_option linter.unusedSimpArgs false
theorem wp_build1 {P : Program} {o : Oper} {a : Act} {w : World} {K : Act → World → Prop} {Q : Exit → Act → World → Prop} (t e : TypeId) (x : Operand) (ho : o.op = .buildSlice t 1 #[(0, x)])
    (ie : TypeInfo) (z : Value) (size : Nat) (hu : P.underlying t = some (.slice e)) (hie : P.info? e = some ie) (hz : ie.zero = some z) (hsz : ie.size = size) (hpos : 0 < size) (hsm : size ≤ 1000) (v : Value) (hv : a.eval x = v) (hvs : v.cells.size = size)
    (h : K (a.put o.dst (.slice (some ⟨w.heap.size, 0, none⟩) 1 1)) (w.alloc (.cells v.cells e))) : o.wp P a w K Q := by
  refine wp_buildSlice t e 1 _ ho v.cells ie z hu hie hz (by rw [hsz]; omega) (by rw [hsz]; omega) ?_ h
  rw [hsz]
  obtain ⟨r, h1, h2, h3⟩ := Great.fill_dense hpos [v] 0 ((Array.range (1 * size)).map (z.cells[· % z.cells.size]!)) (by simpa using hvs) (by simp)
  have hr : r = v.cells := by
    apply Array.ext_getElem?
    intro k
    rw [h3 k]
    by_cases hk : k < size
    · rw [if_pos (by simp; omega), Nat.div_eq_of_lt hk, Nat.mod_eq_of_lt hk]; rfl
    · rw [if_neg (by simp; omega), Array.getElem?_eq_none (by simp; omega), Array.getElem?_eq_none (by omega)]
  rw [← hr]
  simpa [hv] using h1
theorem wp_mapUpdate_own {H : Type} {P : Program} {w : World} {o : Oper} {a : Act} {K : Act → World → Prop} {Q : Exit → Act → World → Prop}
    (m x v : Operand) (t : TypeId) (hop : o.op = Op.mapUpdate t m x v)
    (k e : TypeId) (Ky : Keyed P k) (ht : P.underlying t = some (.map k e)) (R : Value → Option (DataW H × List MemPlace)) (b n : Nat) (D : DataW H)
    (hm : a.eval m = .map (some b)) (hown : w.ownsMap P k R b n D) (hn : n < maxLen) (key val : Value) (kl : Lit) (hx : a.eval x = key) (hv : a.eval v = val) (hkey : keyOf P k key = some kl)
    (d : DataW H) (ps : List MemPlace) (hval : R val = some (d, ps))
    (hK : ∀ w', w'.ownsMap P k R b (n + 1) (D.put kl d) → w.grownBy w' (some b) → K (a.put o.dst undef) w') : o.wp P a w K Q := by
  obtain ⟨w', hrun, r1, r2⟩ := hown.update Ky ht hn hkey hval
  unfold Oper.wp
  simp [execOp, hop, hm, hx, hv, hrun, Result.andThen]
  exact hK w' r1 r2
theorem info_dig' : (Tryd.prog.info? 34).map (fun i => (i.zero, i.size, i.bytes)) = some (some (.agg z32), 32, 32) := by kernel_rfl
theorem info_str' : (Tryd.prog.info? 9).map (fun i => (i.zero, i.size, i.bytes)) = some (some (.string ⟨#[]⟩), 1, 16) := by kernel_rfl
theorem stored_dg (w : World) (X : Array Value) : ∃ w3, Hid ((w.alloc (.cells z32 34)).setRow w.heap.size X = w3) ∧ w3.heap[w.heap.size]? = some (.cells X 34 (0, 0)) ∧ Below w.heap.size w w3 :=
  ⟨_, Lib.hid rfl, setRow_heap _ _ _ X 34 (0, 0) (heap_alloc_new _ _), below_setRow ((Below.refl _ _).alloc (Nat.le_refl _) _) (Nat.le_refl _) _⟩
/-- A row's own block is no map. -/
theorem own_nomap {w : World} {base n size b : Nat} {e : TypeId} {v : Value} {xs : List Value} {R : Value → Option (DataW Unit × List MemPlace)} {k : TypeId} {D : DataW Unit} {m : Nat} (h : w.ownsRow base e size v n xs) (hm : w.ownsMap Tryd.prog k R b m D) : v.ownBlock ≠ some b := fun e1 => by
  obtain ⟨es, clock, hb, _⟩ := hm
  rcases h.2 with ⟨rfl, rfl⟩ | ⟨g2, cap, cur, rfl, q1, q2, q3⟩
  · cases e1
  · cases e1
    rw [hb] at q2; cases q2
/-- Two rows of unlike types have two blocks. -/
theorem own_apart {w : World} {base n size base' n' size' : Nat} {e e' : TypeId} {v v' : Value} {xs xs' : List Value} (h : w.ownsRow base e size v n xs) (h' : w.ownsRow base' e' size' v' n' xs') (he : e ≠ e') : v.ownBlock = none ∨ v.ownBlock ≠ v'.ownBlock := by
  rcases h.2 with ⟨rfl, rfl⟩ | ⟨g2, cap, cur, rfl, q1, q2, q3⟩
  · exact Or.inl rfl
  · rcases h'.2 with ⟨rfl, rfl⟩ | ⟨g3, cap', cur', rfl, p1, p2, p3⟩
    · exact Or.inr (by simp [Value.ownBlock])
    · refine Or.inr fun e1 => he ?_
      cases e1
      rw [q2] at p2; cases p2; rfl
/-- A row's own block is not that of a struct. -/
theorem own_nostruct {w : World} {base n size g : Nat} {e T : TypeId} {v : Value} {xs : List Value} {cs : Array Value} (h : w.ownsRow base e size v n xs) (hg : w.heap[g]? = some (.cells cs T (0, 0))) (he : e ≠ T) : v.ownBlock ≠ some g := fun e1 => by
  rcases h.2 with ⟨rfl, rfl⟩ | ⟨g2, cap, cur, rfl, q1, q2, q3⟩
  · cases e1
  · cases e1
    rw [hg] at q2; cases q2; exact he rfl
theorem own_grown {w w' : World} {base n size : Nat} {e : TypeId} {v : Value} {xs : List Value} {row : Option Nat} (h : w.ownsRow base e size v n xs) (hg : w.grownBy w' row) (hne : v.ownBlock = none ∨ v.ownBlock ≠ row) : w'.ownsRow base e size v n xs := by
  refine ⟨h.1, ?_⟩
  rcases h.2 with h2 | ⟨g2, cap, cur, rfl, q1, q2, q3⟩
  · exact Or.inl h2
  · refine Or.inr ⟨g2, cap, cur, rfl, q1, (hg.block g2 (Array.getElem?_eq_some_iff.1 q2).1 ?_).trans q2, q3⟩
    rcases hne with h | h
    · cases h
    · exact h
theorem map_at_block {w w' : World} {b n : Nat} {k : TypeId} {R : Value → Option (DataW Unit × List MemPlace)} {D : DataW Unit} (h : w.ownsMap Tryd.prog k R b n D) (hb : w'.heap[b]? = w.heap[b]?) : w'.ownsMap Tryd.prog k R b n D := by
  obtain ⟨es, clock, hb0, F, hs, hD⟩ := h
  exact ⟨es, clock, hb.trans hb0, F, hs, hD⟩
theorem map_block {w : World} {b n g : Nat} {k T : TypeId} {R : Value → Option (DataW Unit × List MemPlace)} {D : DataW Unit} {cs : Array Value} (h : w.ownsMap Tryd.prog k R b n D) (hg : w.heap[g]? = some (.cells cs T (0, 0))) : g ≠ b := fun e => by
  obtain ⟨es, clock, hb0, _⟩ := h
  rw [← e, hg] at hb0; cases hb0
end Go.Proofs.YtaneecmfgfkaaaaDoor
