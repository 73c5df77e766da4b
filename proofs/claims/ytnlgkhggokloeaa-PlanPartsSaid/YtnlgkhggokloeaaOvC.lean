/- Package over: teller. -/
import Derived.Test.YtnlgkhggokloeaaOvB
import Derived.Test.YtnlgkhggokloeaaShf
import Derived.Sort.OwnSortedInts
import Derived.Maps.AppendAt
import Derived.Deep.AppendLies
namespace Go.Proofs.Ytnlgkhggokloeaa
open Go.RowKit Go.Deep Go.Sort
set_option linter.unusedVariables false
set_option linter.unusedSimpArgs false
/-- The keys met so far. -/
def ColI (D : DataW Unit) (left : Lit → Bool) (ss : List Int) : Prop := ss.Nodup ∧ ∀ x, x ∈ ss ↔ (Maps.has D (keyL x) = true ∧ left (keyL x) = false)
theorem ColI.start (D : DataW Unit) : ColI D (Maps.has D) [] := ⟨List.nodup_nil, fun x => by cases Maps.has D (keyL x) <;> simp⟩
theorem ColI.step {D : DataW Unit} {left : Lit → Bool} {ss : List Int} (h : ColI D left ss) {x : Int} {y : DataW Unit} (hlk : left (keyL x) = true) (hat : ∀ zd, D.atKey (keyL x) zd = y) : ColI D (fun z => left z && !z.sameKey (keyL x)) (ss ++ [x]) := by
  have hhas : Maps.has D (keyL x) = true := Maps.has_true_of_atKey hat
  have hnew : x ∉ ss := fun hx => by have := ((h.2 x).1 hx).2; rw [hlk] at this; cases this
  refine ⟨List.nodup_append.2 ⟨h.1, by simp, fun a ha b hb => by simp at hb; subst hb; exact fun e => hnew (e ▸ ha)⟩, fun y => ?_⟩
  by_cases hy : y = x
  · subst hy; simp [hhas, same_key]
  · simp [h.2 y, hy, same_key]
theorem srt_nodup {L : List Pu} (h : Srt L) : (L.map (·.1)).Nodup := by
  refine List.pairwise_map.2 (h.imp fun {a b} hab => ?_)
  omega
theorem ColI.perm {L : List Pu} {left : Lit → Bool} {ss : List Int} (h : ColI (mapD L) left ss) (hs : Srt L) (hl : ∀ kl, left kl = false) : ss.Perm (L.map (·.1)) := by
  refine (List.perm_ext_iff_of_nodup h.1 (srt_nodup hs)).2 fun x => ?_
  rw [h.2 x, hl, map_has, List.any_eq_true, List.mem_map]
  simp
theorem sort_perm {ss : List Int} {L : List Pu} (h : ss.Perm (L.map (·.1))) (hs : Srt L) : (ss.mergeSort fun x y => decide (x ≤ y)) = L.map (·.1) := by
  have tr : ∀ a b c : Int, decide (a ≤ b) = true → decide (b ≤ c) = true → decide (a ≤ c) = true := fun a b c h1 h2 => by simp at *; omega
  have tt : ∀ a b : Int, (decide (a ≤ b) || decide (b ≤ a)) = true := fun a b => by simp; omega
  refine List.Perm.eq_of_pairwise (le := fun a b => decide (a ≤ b) = true) (fun a b _ _ h1 h2 => ?_) (List.pairwise_mergeSort tr tt ss) (List.pairwise_map.2 (hs.imp fun {a b} hab => by simp; omega)) ((List.mergeSort_perm ss _).trans h)
  simp at h1 h2
  omega
/-- Numbers behind a slice, in a block from N on. -/
def IntsO (N : Nat) (w : World) (ao : Option Addr) (zs : List Int) : Prop := 0 < zs.length → ∃ g o, ao = some ⟨g, o, none⟩ ∧ N ≤ g ∧ g < w.heap.size ∧ ∀ i, i < zs.length → w.cell? ⟨g, o + i, none⟩ = some (.int .i64 (zs.getD i 0))
/-- What teller leaves: its places in a slice in the cell l, the sheet's pointer in the cell bx. -/
def TeAt (N : Nat) (w : World) (l bx : Nat) (pv : Value) (ao : Option Addr) (c : Nat) (zs : List Int) : Prop := N ≤ l ∧ N ≤ bx ∧ w.cell? ⟨bx, 0, none⟩ = some pv ∧ w.cell? ⟨l, 0, none⟩ = some (.slice ao zs.length c) ∧ IntsO N w ao zs
theorem TeAt.same {N : Nat} {w w' : World} {l bx c : Nat} {pv : Value} {ao : Option Addr} {zs : List Int} (h : TeAt N w l bx pv ao c zs) (hs : w.heap.size ≤ w'.heap.size) (k : ∀ j, N ≤ j → j < w.heap.size → w'.heap[j]? = w.heap[j]?) : TeAt N w' l bx pv ao c zs := by
  obtain ⟨h1, h2, h3, h4, h5⟩ := h
  refine ⟨h1, h2, (World.cell?_of_block (a := ⟨bx, 0, none⟩) (k bx h2 (block_lt_of_cell h3))).trans h3, (World.cell?_of_block (a := ⟨l, 0, none⟩) (k l h1 (block_lt_of_cell h4))).trans h4, fun hp => ?_⟩
  obtain ⟨g, o, e, hg, hgl, hc⟩ := h5 hp
  exact ⟨g, o, e, hg, Nat.lt_of_lt_of_le hgl hs, fun i hi => (World.cell?_of_block (a := ⟨g, o + i, none⟩) (k g hg hgl)).trans (hc i hi)⟩
theorem TeAt.below {N : Nat} {w w' : World} {l bx c : Nat} {pv : Value} {ao : Option Addr} {zs : List Int} (h : TeAt N w l bx pv ao c zs) (b : Below w.heap.size w w') : TeAt N w' l bx pv ao c zs := h.same b.size (fun j _ hj => b.block j hj)
/-- The loop of teller: the row of places in the cell l, an iterator in r. -/
structure Tl (base l r : Nat) (w0 w : World) (ss : List Int) : Prop where
  row : ∃ v, w.cell? ⟨l, 0, none⟩ = some v ∧ w.ownsRow base 3 1 v ss.length (ss.map (Value.int .i64))
  free : w.frozen? ⟨l, 0, none⟩ = false
  below : Below l w0 w
  other : ∀ k, k < base → k ≠ l → k ≠ r → w.heap[k]? = w0.heap[k]?
  size : base ≤ w.heap.size
section
variable {base l r b n cnt : Nat} {w0 w w1 w2 : World} {ss : List Int} {D : DataW Unit} {left : Lit → Bool} {R : Value → Option (DataW Unit × List MemPlace)} {k : TypeId}
theorem Tl.next (h : Tl base l r w0 w ss) (hr : r < base) (hl : l < r) (g : w.grownBy w1 (some r)) : Tl base l r w0 w1 ss := by
  obtain ⟨v, hc, ho⟩ := h.row
  have hll : l < w.heap.size := block_lt_of_cell hc
  refine ⟨⟨v, (g.cell_far ⟨l, 0, none⟩ hll (fun e => by injection e with e; exact absurd e (by show l ≠ r; omega))).trans hc, ho.kept g ?_⟩, (g.frozen_far ⟨l, 0, none⟩ hll (fun e => by injection e with e; exact absurd e (by show l ≠ r; omega))).trans h.free, ?_, fun j hj h1 h2 => ?_, Nat.le_trans h.size g.size⟩
  · right
    intro e
    have := (ho.lt r e).1
    omega
  · exact h.below.grown g (Nat.le_of_lt hll) (fun j e => by injection e with e; omega)
  · exact (g.block j (Nat.lt_of_lt_of_le hj h.size) (fun e => by injection e with e; exact h2 e)).trans (h.other j hj h1 h2)
theorem grown_setO (w : World) (l : Nat) (v : Value) : w.grownBy (w.setCell ⟨l, 0, none⟩ v) (some l) :=
  ⟨rfl, rfl, rfl, by simp [World.setCell], fun k hk hn => Below.heap_setCell w ⟨l, 0, none⟩ v k (fun e => hn (by rw [show k = l from e]))⟩
theorem Tl.push {v v' : Value} {x : Int} {o : Obj} (hU : Tl base l r w0 w ss) (hl : l < base) (hv : w.cell? ⟨l, 0, none⟩ = some v) (ho : w.ownsRow base 3 1 v ss.length (ss.map (Value.int .i64))) (hown : w1.ownsRow base 3 1 v' (ss.length + 1) (ss.map (Value.int .i64) ++ [.int .i64 x])) (hg : (w.alloc o).grownBy w1 v.ownBlock) :
    w1.cell? ⟨l, 0, none⟩ = some v ∧ w1.frozen? ⟨l, 0, none⟩ = false ∧ Tl base l r w0 (w1.setCell ⟨l, 0, none⟩ v') (ss ++ [x]) := by
  have hvl : v.ownBlock ≠ some l := fun e => by have := (ho.lt l e).1; omega
  have hvl' : v'.ownBlock ≠ some l := fun e => by have := (hown.lt l e).1; omega
  have hll : l < w.heap.size := block_lt_of_cell hv
  have hB := ((Below.refl w.heap.size w).alloc (Nat.le_refl _) o)
  have c1 : (w.alloc o).cell? ⟨l, 0, none⟩ = some v := (hB.cell (p := ⟨l, 0, none⟩) hll).trans hv
  have f1 : (w.alloc o).frozen? ⟨l, 0, none⟩ = false := (hB.frozen (p := ⟨l, 0, none⟩) hll).trans hU.free
  have hla : l < (w.alloc o).heap.size := by simp; omega
  have c2 : w1.cell? ⟨l, 0, none⟩ = some v := (hg.cell_far ⟨l, 0, none⟩ hla (fun e => hvl e.symm)).trans c1
  have f2 : w1.frozen? ⟨l, 0, none⟩ = false := (hg.frozen_far ⟨l, 0, none⟩ hla (fun e => hvl e.symm)).trans f1
  have hsz : w.heap.size ≤ w1.heap.size := by have := hg.size; simp at this; omega
  refine ⟨c2, f2, ⟨v', World.cell?_setCell_same _ _ _ c2, ?_⟩, by rw [World.frozen?_setCell]; exact f2, ?_, fun k hk hn hn2 => ?_, ?_⟩
  · rw [List.length_append, List.map_append]
    exact hown.kept (grown_setO w1 l v') (Or.inr hvl')
  · have b1 : Below l w0 (w.alloc o) := hU.below.alloc (Nat.le_of_lt hll) o
    exact ((b1.grown hg (by simp; omega) (fun j e => by have := (ho.lt j e).1; omega)).setCell (p := ⟨l, 0, none⟩) (Nat.le_refl _) v')
  · have hkw : k < w.heap.size := Nat.lt_of_lt_of_le hk hU.size
    rw [Below.heap_setCell w1 ⟨l, 0, none⟩ v' k hn]
    exact (hg.block k (by simp; omega) (fun e => by have := (ho.lt k e.symm).1; omega)).trans ((hB.block k hkw).trans (hU.other k hk hn hn2))
  · have := hU.size
    simp [World.setCell]
    omega
theorem ranges_push {v v' : Value} {n : Nat} {o : Obj} {xs : List Value} {m : Nat} (h : w.ranges Try.prog 3 R b r n D left cnt) (ho : w.ownsRow base 3 1 v m xs) (hb : b < base) (hr : r < base) (hbl : b ≠ l) (hrl : r ≠ l) (hg : (w.alloc o).grownBy w1 v.ownBlock) : (w1.setCell ⟨l, 0, none⟩ v').ranges Try.prog 3 R b r n D left cnt := by
  have h1 : some b ≠ v.ownBlock := fun e => by have := (ho.lt b e.symm).1; omega
  have h2 : some r ≠ v.ownBlock := fun e => by have := (ho.lt r e.symm).1; omega
  exact (((h.alloc o).kept hg h1 h2).kept (grown_setO w1 l v') (fun e => by injection e with e; exact hbl e) (fun e => by injection e with e; exact hrl e))
end
theorem info_partsO {P : Program} {t : TypeId} {z : Value} {n m : Nat} (h : (P.info? t).map (fun i => (i.zero, i.size, i.bytes)) = some (some z, n, m)) : ∃ i, P.info? t = some i ∧ i.zero = some z ∧ i.size = n ∧ i.bytes = m := by
  cases hq : P.info? t with
  | none => simp [hq] at h
  | some i => simp [hq] at h; exact ⟨i, rfl, h.1, h.2.1, h.2.2⟩
theorem info_i64O : (Try.prog.info? 3).map (fun i => (i.zero, i.size, i.bytes)) = some (some (.int .i64 0), 1, 8) := by kernel_rfl
theorem own_slO {w : World} {base n size : Nat} {e : TypeId} {v : Value} {xs : List Value} (h : w.ownsRow base e size v n xs) : ∃ a c, v = .slice a n c := by
  rcases h.2 with ⟨rfl, rfl⟩ | ⟨g, cap, cur, rfl, hb, hg, hnc, hcm, _⟩
  · exact ⟨none, 0, rfl⟩
  · exact ⟨some ⟨g, 0, none⟩, cap, rfl⟩
/-- Behind the sort of the row in the cell l. -/
def SoP (base l r : Nat) (w0 : World) (zs : List Int) (w' : World) : Prop := Below l w0 w' ∧ (∀ k, k < base → k ≠ l → k ≠ r → w'.heap[k]? = w0.heap[k]?) ∧ base ≤ w'.heap.size ∧ ∃ ao c, w'.cell? ⟨l, 0, none⟩ = some (.slice ao zs.length c) ∧ IntsO base w' ao zs
theorem sort_any {base l r : Nat} {w0 w : World} {ss : List Int} {v : Value} {L : List Pu} (h : Tl base l r w0 w ss) (hl : l < base) (hn : ss.length < 1000000) (hc : w.cell? ⟨l, 0, none⟩ = some v) (ho : w.ownsRow base 3 1 v ss.length (ss.map (Value.int .i64))) (hp : ss.Perm (L.map (·.1))) (hs : Srt L) : Calls Try.prog 32 #[v] w fun e w' => e = .returned (.tuple #[]) ∧ SoP base l r w0 (L.map (·.1)) w' := by
  have hlen : ss.length = (L.map (·.1)).length := hp.length_eq
  rcases ho.2 with ⟨rfl, h0⟩ | ⟨g, cap, cur, rfl, hbg, hg, hnc, hcm, hcs, htk⟩
  · refine (Try.slices_Sort_int_none none 0 w).mono ?_
    rintro e w' ⟨rfl, rfl⟩
    exact ⟨rfl, h.below, h.other, h.size, none, 0, by rw [hc, ← hlen, h0], fun hp => by omega⟩
  · have hH := holds_of_blockI (ss := ss) hg (by simpa using htk)
    have hgl : g < w.heap.size := (Array.getElem?_eq_some_iff.1 hg).1
    refine (Try.slices_Sort_int g 0 cap ss w hH hgl (by omega)).mono ?_
    rintro e w' ⟨rfl, n, os, rfl⟩
    have hgr := grownBy_sortedI (w := w) (g := g) (n := n) (os := os) (ss.mergeSort fun x y => decide (x ≤ y)).toArray
    have hll : l < w.heap.size := block_lt_of_cell hc
    have hgl2 : g ≠ l := by omega
    have hown := ownsRow_sortedI (n := n) (os := os) (ts := ss.mergeSort fun x y => decide (x ≤ y)) (by simp) hbg hg hnc hcm (by simpa using hcs)
    rw [sort_perm hp hs] at hown hgr ⊢
    refine ⟨rfl, h.below.grown hgr (Nat.le_of_lt hll) (fun j e => by injection e with e; omega), fun k hk h1 h2 => (hgr.block k (Nat.lt_of_lt_of_le hk h.size) (fun e => by injection e with e; omega)).trans (h.other k hk h1 h2), Nat.le_trans h.size hgr.size, some ⟨g, 0, none⟩, cap, ?_, fun hp => ⟨g, 0, rfl, hbg, Nat.lt_of_lt_of_le hgl hgr.size, fun i hi => ?_⟩⟩
    · rw [← hlen]
      exact (hgr.cell_far ⟨l, 0, none⟩ hll (fun e => by injection e with e; exact hgl2 e.symm)).trans hc
    · have := hown.cells (g := g) rfl i (.int .i64 ((L.map (·.1)).getD i 0)) (by rw [List.getElem?_map, List.getD_eq_getElem?_getD, List.getElem?_eq_getElem hi]; rfl)
      rw [Addr.add_lit] at this
      exact this
theorem find_srt : ∀ {L : List Pu}, Srt L → ∀ i (hi : i < L.length), findL L L[i].1 = some L[i]
  | x :: r, h, 0, _ => by
    unfold findL
    show List.find? _ (x :: r) = some x
    rw [List.find?_cons_of_pos (by simp)]
  | x :: r, h, i + 1, hi => by
    have h' := List.pairwise_cons.1 h
    have hi' : i < r.length := by simpa using hi
    have ih := find_srt h'.2 i hi'
    have hlt := h'.1 r[i] (List.getElem_mem hi')
    unfold findL at ih ⊢
    show List.find? (fun p => decide (p.1 = r[i].1)) (x :: r) = some r[i]
    rw [List.find?_cons_of_neg (by simp; omega)]
    exact ih
end Go.Proofs.Ytnlgkhggokloeaa
