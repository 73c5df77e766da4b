/- Package over: teller. -/
import Derived.Test.YtbjlmpcbjppfdaaOvB
import Derived.Test.YtbjlmpcbjppfdaaShf
import Derived.Sort.OwnSortedInts
import Derived.Maps.AppendAt
import Derived.Deep.AppendLies
namespace Go.Proofs.Ytbjlmpcbjppfdaa
open Go.RowKit Go.Deep Go.Sort
set_option linter.unusedVariables false
set_option linter.unusedSimpArgs false
/-- The keys met so far. -/
def ColI (D : DataW Unit) (left : Lit → Bool) (ss : List Int) : Prop := ss.Nodup ∧ ∀ x, x ∈ ss ↔ (Maps.has D (keyL x) = true ∧ left (keyL x) = false)
theorem ColI.start (D : DataW Unit) : ColI D (Maps.has D) [] := ⟨List.nodup_nil, fun x => by cases Maps.has D (keyL x) <;> simp⟩
theorem ColI.step {D : DataW Unit} {left : Lit → Bool} {ss : List Int} (h : ColI D left ss) {x : Int} {y : DataW Unit} (hlk : left (keyL x) = true) (hat : ∀ zd, D.atKey (keyL x) zd = y) : ColI D (fun z => left z && !z.sameKey (keyL x)) (ss ++ [x]) := by
  have hhas : Maps.has D (keyL x) = true := Maps.has_true_of_atKey hat
  have hnew : x ∉ ss := fun hx => by have := ((h.2 x).1 hx).2; rw [hlk] at this; cases this
  refine ⟨List.nodup_append.2 ⟨h.1, by simp, fun a ha b hb => by simp at hb; subst hb; exact fun e => hnew (e ▸ ha)⟩, fun y => ?_⟩
  by_cases hy : y = x
  · subst hy; simp [hhas, same_key]
  · simp [h.2 y, hy, same_key]
theorem srt_nodup {L : List Pu} (h : Srt L) : (L.map (·.1)).Nodup := by
  refine List.pairwise_map.2 (h.imp fun {a b} hab => ?_)
  omega
theorem ColI.perm {L : List Pu} {left : Lit → Bool} {ss : List Int} (h : ColI (mapD L) left ss) (hs : Srt L) (hl : ∀ kl, left kl = false) : ss.Perm (L.map (·.1)) := by
  refine (List.perm_ext_iff_of_nodup h.1 (srt_nodup hs)).2 fun x => ?_
  rw [h.2 x, hl, map_has, List.any_eq_true, List.mem_map]
  simp
theorem sort_perm {ss : List Int} {L : List Pu} (h : ss.Perm (L.map (·.1))) (hs : Srt L) : (ss.mergeSort fun x y => decide (x ≤ y)) = L.map (·.1) := by
  have tr : ∀ a b c : Int, decide (a ≤ b) = true → decide (b ≤ c) = true → decide (a ≤ c) = true := fun a b c h1 h2 => by simp at *; omega
  have tt : ∀ a b : Int, (decide (a ≤ b) || decide (b ≤ a)) = true := fun a b => by simp; omega
  refine List.Perm.eq_of_pairwise (le := fun a b => decide (a ≤ b) = true) (fun a b _ _ h1 h2 => ?_) (List.pairwise_mergeSort tr tt ss) (List.pairwise_map.2 (hs.imp fun {a b} hab => by simp; omega)) ((List.mergeSort_perm ss _).trans h)
  simp at h1 h2
  omega
/-- Numbers behind a slice, in a block from N on. -/
def IntsO (N : Nat) (w : World) (ao : Option Addr) (zs : List Int) : Prop := 0 < zs.length → ∃ g o, ao = some ⟨g, o, none⟩ ∧ N ≤ g ∧ g < w.heap.size ∧ ∀ i, i < zs.length → w.cell? ⟨g, o + i, none⟩ = some (.int .i64 (zs.getD i 0))
/-- What teller leaves: its places in a slice in the cell l, the sheet's pointer in the cell bx. -/
def TeAt (N : Nat) (w : World) (l bx : Nat) (pv : Value) (ao : Option Addr) (c : Nat) (zs : List Int) : Prop := N ≤ l ∧ N ≤ bx ∧ w.cell? ⟨bx, 0, none⟩ = some pv ∧ w.cell? ⟨l, 0, none⟩ = some (.slice ao zs.length c) ∧ IntsO N w ao zs
theorem TeAt.same {N : Nat} {w w' : World} {l bx c : Nat} {pv : Value} {ao : Option Addr} {zs : List Int} (h : TeAt N w l bx pv ao c zs) (hs : w.heap.size ≤ w'.heap.size) (k : ∀ j, N ≤ j → j < w.heap.size → w'.heap[j]? = w.heap[j]?) : TeAt N w' l bx pv ao c zs := by
  obtain ⟨h1, h2, h3, h4, h5⟩ := h
  refine ⟨h1, h2, (World.cell?_of_block (a := ⟨bx, 0, none⟩) (k bx h2 (block_lt_of_cell h3))).trans h3, (World.cell?_of_block (a := ⟨l, 0, none⟩) (k l h1 (block_lt_of_cell h4))).trans h4, fun hp => ?_⟩
  obtain ⟨g, o, e, hg, hgl, hc⟩ := h5 hp
  exact ⟨g, o, e, hg, Nat.lt_of_lt_of_le hgl hs, fun i hi => (World.cell?_of_block (a := ⟨g, o + i, none⟩) (k g hg hgl)).trans (hc i hi)⟩
theorem TeAt.below {N : Nat} {w w' : World} {l bx c : Nat} {pv : Value} {ao : Option Addr} {zs : List Int} (h : TeAt N w l bx pv ao c zs) (b : Below w.heap.size w w') : TeAt N w' l bx pv ao c zs := h.same b.size (fun j _ hj => b.block j hj)
/-- The loop of teller: the row of places in the cell l, an iterator in r. -/
structure Tl (base l r : Nat) (w0 w : World) (ss : List Int) : Prop where
  row : ∃ v, w.cell? ⟨l, 0, none⟩ = some v ∧ w.ownsRow base 3 1 v ss.length (ss.map (Value.int .i64))
  free : w.frozen? ⟨l, 0, none⟩ = false
  below : Below l w0 w
  other : ∀ k, k < base → k ≠ l → k ≠ r → w.heap[k]? = w0.heap[k]?
  size : base ≤ w.heap.size
section
variable {base l r b n cnt : Nat} {w0 w w1 w2 : World} {ss : List Int} {D : DataW Unit} {left : Lit → Bool} {R : Value → Option (DataW Unit × List MemPlace)} {k : TypeId}
theorem Tl.next (h : Tl base l r w0 w ss) (hr : r < base) (hl : l < r) (g : w.grownBy w1 (some r)) : Tl base l r w0 w1 ss := by
  obtain ⟨v, hc, ho⟩ := h.row
  have hll : l < w.heap.size := block_lt_of_cell hc
  refine ⟨⟨v, (g.cell_far ⟨l, 0, none⟩ hll (fun e => by injection e with e; exact absurd e (by show l ≠ r; omega))).trans hc, ho.kept g ?_⟩, (g.frozen_far ⟨l, 0, none⟩ hll (fun e => by injection e with e; exact absurd e (by show l ≠ r; omega))).trans h.free, ?_, fun j hj h1 h2 => ?_, Nat.le_trans h.size g.size⟩
  · right
    intro e
    have := (ho.lt r e).1
    omega
  · exact h.below.grown g (Nat.le_of_lt hll) (fun j e => by injection e with e; omega)
  · exact (g.block j (Nat.lt_of_lt_of_le hj h.size) (fun e => by injection e with e; exact h2 e)).trans (h.other j hj h1 h2)
theorem grown_setO (w : World) (l : Nat) (v : Value) : w.grownBy (w.setCell ⟨l, 0, none⟩ v) (some l) :=
  ⟨rfl, rfl, rfl, by simp [World.setCell], fun k hk hn => Below.heap_setCell w ⟨l, 0, none⟩ v k (fun e => hn (by rw [show k = l from e]))⟩
theorem Tl.push {v v' : Value} {x : Int} {o : Obj} (hU : Tl base l r w0 w ss) (hl : l < base) (hv : w.cell? ⟨l, 0, none⟩ = some v) (ho : w.ownsRow base 3 1 v ss.length (ss.map (Value.int .i64))) (hown : w1.ownsRow base 3 1 v' (ss.length + 1) (ss.map (Value.int .i64) ++ [.int .i64 x])) (hg : (w.alloc o).grownBy w1 v.ownBlock) :
    w1.cell? ⟨l, 0, none⟩ = some v ∧ w1.frozen? ⟨l, 0, none⟩ = false ∧ Tl base l r w0 (w1.setCell ⟨l, 0, none⟩ v') (ss ++ [x]) := by
  have hvl : v.ownBlock ≠ some l := fun e => by have := (ho.lt l e).1; omega
  have hvl' : v'.ownBlock ≠ some l := fun e => by have := (hown.lt l e).1; omega
  have hll : l < w.heap.size := block_lt_of_cell hv
  have hB := ((Below.refl w.heap.size w).alloc (Nat.le_refl _) o)
  have c1 : (w.alloc o).cell? ⟨l, 0, none⟩ = some v := (hB.cell (p := ⟨l, 0, none⟩) hll).trans hv
  have f1 : (w.alloc o).frozen? ⟨l, 0, none⟩ = false := (hB.frozen (p := ⟨l, 0, none⟩) hll).trans hU.free
  have hla : l < (w.alloc o).heap.size := by simp; omega
  have c2 : w1.cell? ⟨l, 0, none⟩ = some v := (hg.cell_far ⟨l, 0, none⟩ hla (fun e => hvl e.symm)).trans c1
  have f2 : w1.frozen? ⟨l, 0, none⟩ = false := (hg.frozen_far ⟨l, 0, none⟩ hla (fun e => hvl e.symm)).trans f1
  have hsz : w.heap.size ≤ w1.heap.size := by have := hg.size; simp at this; omega
  refine ⟨c2, f2, ⟨v', World.cell?_setCell_same _ _ _ c2, ?_⟩, by rw [World.frozen?_setCell]; exact f2, ?_, fun k hk hn hn2 => ?_, ?_⟩
  · rw [List.length_append, List.map_append]
    exact hown.kept (grown_setO w1 l v') (Or.inr hvl')
  · have b1 : Below l w0 (w.alloc o) := hU.below.alloc (Nat.le_of_lt hll) o
    exact ((b1.grown hg (by simp; omega) (fun j e => by have := (ho.lt j e).1; omega)).setCell (p := ⟨l, 0, none⟩) (Nat.le_refl _) v')
  · have hkw : k < w.heap.size := Nat.lt_of_lt_of_le hk hU.size
    rw [Below.heap_setCell w1 ⟨l, 0, none⟩ v' k hn]
    exact (hg.block k (by simp; omega) (fun e => by have := (ho.lt k e.symm).1; omega)).trans ((hB.block k hkw).trans (hU.other k hk hn hn2))
  · have := hU.size
    simp [World.setCell]
    omega
theorem ranges_push {v v' : Value} {n : Nat} {o : Obj} {xs : List Value} {m : Nat} (h : w.ranges Try.prog 3 R b r n D left cnt) (ho : w.ownsRow base 3 1 v m xs) (hb : b < base) (hr : r < base) (hbl : b ≠ l) (hrl : r ≠ l) (hg : (w.alloc o).grownBy w1 v.ownBlock) : (w1.setCell ⟨l, 0, none⟩ v').ranges Try.prog 3 R b r n D left cnt := by
  have h1 : some b ≠ v.ownBlock := fun e => by have := (ho.lt b e.symm).1; omega
  have h2 : some r ≠ v.ownBlock := fun e => by have := (ho.lt r e.symm).1; omega
  exact (((h.alloc o).kept hg h1 h2).kept (grown_setO w1 l v') (fun e => by injection e with e; exact hbl e) (fun e => by injection e with e; exact hrl e))
end
theorem info_partsO {P : Program} {t : TypeId} {z : Value} {n m : Nat} (h : (P.info? t).map (fun i => (i.zero, i.size, i.bytes)) = some (some z, n, m)) : ∃ i, P.info? t = some i ∧ i.zero = some z ∧ i.size = n ∧ i.bytes = m := by
  cases hq : P.info? t with
  | none => simp [hq] at h
  | some i => simp [hq] at h; exact ⟨i, rfl, h.1, h.2.1, h.2.2⟩
theorem info_i64O : (Try.prog.info? 3).map (fun i => (i.zero, i.size, i.bytes)) = some (some (.int .i64 0), 1, 8) := by kernel_rfl
theorem own_slO {w : World} {base n size : Nat} {e : TypeId} {v : Value} {xs : List Value} (h : w.ownsRow base e size v n xs) : ∃ a c, v = .slice a n c := by
  rcases h.2 with ⟨rfl, rfl⟩ | ⟨g, cap, cur, rfl, hb, hg, hnc, hcm, _⟩
  · exact ⟨none, 0, rfl⟩
  · exact ⟨some ⟨g, 0, none⟩, cap, rfl⟩
/-- Behind the sort of the row in the cell l. -/
def SoP (base l r : Nat) (w0 : World) (zs : List Int) (w' : World) : Prop := Below l w0 w' ∧ (∀ k, k < base → k ≠ l → k ≠ r → w'.heap[k]? = w0.heap[k]?) ∧ base ≤ w'.heap.size ∧ ∃ ao c, w'.cell? ⟨l, 0, none⟩ = some (.slice ao zs.length c) ∧ IntsO base w' ao zs
theorem sort_any {base l r : Nat} {w0 w : World} {ss : List Int} {v : Value} {L : List Pu} (h : Tl base l r w0 w ss) (hl : l < base) (hn : ss.length < 1000000) (hc : w.cell? ⟨l, 0, none⟩ = some v) (ho : w.ownsRow base 3 1 v ss.length (ss.map (Value.int .i64))) (hp : ss.Perm (L.map (·.1))) (hs : Srt L) : Calls Try.prog 26 #[v] w fun e w' => e = .returned (.tuple #[]) ∧ SoP base l r w0 (L.map (·.1)) w' := by
  have hlen : ss.length = (L.map (·.1)).length := hp.length_eq
  rcases ho.2 with ⟨rfl, h0⟩ | ⟨g, cap, cur, rfl, hbg, hg, hnc, hcm, hcs, htk⟩
  · refine (Try.slices_Sort_int_none none 0 w).mono ?_
    rintro e w' ⟨rfl, rfl⟩
    exact ⟨rfl, h.below, h.other, h.size, none, 0, by rw [hc, ← hlen, h0], fun hp => by omega⟩
  · have hH := holds_of_blockI (ss := ss) hg (by simpa using htk)
    have hgl : g < w.heap.size := (Array.getElem?_eq_some_iff.1 hg).1
    refine (Try.slices_Sort_int g 0 cap ss w hH hgl (by omega)).mono ?_
    rintro e w' ⟨rfl, n, os, rfl⟩
    have hgr := grownBy_sortedI (w := w) (g := g) (n := n) (os := os) (ss.mergeSort fun x y => decide (x ≤ y)).toArray
    have hll : l < w.heap.size := block_lt_of_cell hc
    have hgl2 : g ≠ l := by omega
    have hown := ownsRow_sortedI (n := n) (os := os) (ts := ss.mergeSort fun x y => decide (x ≤ y)) (by simp) hbg hg hnc hcm (by simpa using hcs)
    rw [sort_perm hp hs] at hown hgr ⊢
    refine ⟨rfl, h.below.grown hgr (Nat.le_of_lt hll) (fun j e => by injection e with e; omega), fun k hk h1 h2 => (hgr.block k (Nat.lt_of_lt_of_le hk h.size) (fun e => by injection e with e; omega)).trans (h.other k hk h1 h2), Nat.le_trans h.size hgr.size, some ⟨g, 0, none⟩, cap, ?_, fun hp => ⟨g, 0, rfl, hbg, Nat.lt_of_lt_of_le hgl hgr.size, fun i hi => ?_⟩⟩
    · rw [← hlen]
      exact (hgr.cell_far ⟨l, 0, none⟩ hll (fun e => by injection e with e; exact hgl2 e.symm)).trans hc
    · have := hown.cells (g := g) rfl i (.int .i64 ((L.map (·.1)).getD i 0)) (by rw [List.getElem?_map, List.getD_eq_getElem?_getD, List.getElem?_eq_getElem hi]; rfl)
      rw [Addr.add_lit] at this
      exact this
set_option maxRecDepth 100000 in
set_option maxHeartbeats 8000000 in
theorem teller_any {w : World} {B p b : Nat} {L : List Pu} (q : ShAt w B p b L) (hn : L.length < 100000) : Calls Try.prog 22 #[.pointer (some ⟨p, 0, none⟩)] w fun e w' => ∃ l bx ao c, e = .returned (.func (.func 27) #[] #[.pointer (some ⟨l, 0, none⟩), .pointer (some ⟨bx, 0, none⟩)]) ∧ TeAt w.heap.size w' l bx (.pointer (some ⟨p, 0, none⟩)) ao c (L.map (·.1)) ∧ Below w.heap.size w w' := by
  obtain ⟨w1, hw1⟩ : ∃ w1, w.alloc (.cells #[.pointer (some ⟨p, 0, none⟩)] 23) = w1 := ⟨_, rfl⟩
  have B1 : Below w.heap.size w w1 := by rw [← hw1]; exact (Below.refl _ _).alloc (Nat.le_refl _) _
  have S1 : w1.heap.size = w.heap.size + 1 := by rw [← hw1]; simp
  have X1 : w1.cell? ⟨w.heap.size, 0, none⟩ = some (.pointer (some ⟨p, 0, none⟩)) := by rw [← hw1]; exact World.cell?_alloc_at _ _ _ _ rfl
  obtain ⟨w2, hw2⟩ : ∃ w2, w1.alloc (.cells #[.slice none 0 0] 54) = w2 := ⟨_, rfl⟩
  have B2 : Below w1.heap.size w1 w2 := by rw [← hw2]; exact (Below.refl _ _).alloc (Nat.le_refl _) _
  have S2 : w2.heap.size = w.heap.size + 2 := by rw [← hw2]; simp; omega
  have Y2 : w2.cell? ⟨w.heap.size + 1, 0, none⟩ = some (.slice none 0 0) := by rw [← hw2, ← S1]; exact World.cell?_alloc_at _ _ _ _ rfl
  have F2 : w2.frozen? ⟨w.heap.size + 1, 0, none⟩ = false := by rw [← hw2, ← S1]; simp
  have X2 : w2.cell? ⟨w.heap.size, 0, none⟩ = some (.pointer (some ⟨p, 0, none⟩)) := (B2.cell (p := ⟨w.heap.size, 0, none⟩) (show w.heap.size < w1.heap.size by rw [S1]; omega)).trans X1
  have q2 := (q.below B1).below B2
  have HB2 : Hid (Below w.heap.size w w2) := Lib.hid (B1.trans (B2.mono (by omega)))
  have c0 := q2.c0
  have HQ2 := Lib.hid q2
  have HM := Lib.hid q2.map
  have hblt : b < w.heap.size := q.blt
  have HY2 := Lib.hid Y2
  have HF2 := Lib.hid F2
  have HX2 := Lib.hid X2
  have HW1 := Lib.hid hw1
  have HW2 := Lib.hid hw2
  have HS1 := Lib.hid S1
  have HS2 := Lib.hid S2
  obtain ⟨N, hN⟩ : ∃ N, Hid (w.heap.size = N) := ⟨_, Lib.hid rfl⟩
  obtain ⟨i0, hi0, hz0, hz1, hz2⟩ := info_partsO info_i64O
  clear hw1 hw2 B1 S1 X1 B2 S2 Y2 F2 X2 q2 q
  go_enter Try.func22, Try.ntmps22
  go_upto_region 1 with fail
  rw [HW1.out, hN.out]
  go_upto_region 2 with fail
  rw [HW2.out, HS1.out]
  rw [hN.out] at HS1 HS2 HY2 HF2 HX2 HB2 hblt ⊢
  clear HW1 HW2
  have x2 := HX2.out
  go_wp2_with (at_range; refine wpList_range_own _ rfl _ 45 rfl 3 29 intK Try.underlying45 putR b L.length (mapD L) rfl HM.out ?_; intro w3 hrg0 hg0 hs0)
  have hr2 := HS2.out
  rw [hr2] at hrg0 hs0 ⊢
  have HRG0 := Lib.hid hrg0
  have hb23 : Below w2.heap.size w2 w3 := (Below.refl _ _).grown hg0 (Nat.le_refl _) (fun j e => by cases e)
  have HT0 : Hid (Tl (N + 3) (N + 1) (N + 2) w3 w3 []) := Lib.hid
    { row := ⟨.slice none 0 0, (hb23.cell (p := ⟨N + 1, 0, none⟩) (show N + 1 < w2.heap.size by omega)).trans HY2.out, World.ownsRow_nil _ _ _ _⟩
      free := (hb23.frozen (p := ⟨N + 1, 0, none⟩) (show N + 1 < w2.heap.size by omega)).trans HF2.out
      below := Below.refl _ _
      other := fun _ _ _ _ => rfl
      size := by omega }
  have HX3 : Hid (w3.cell? ⟨N, 0, none⟩ = some (.pointer (some ⟨p, 0, none⟩))) := Lib.hid ((hb23.cell (p := ⟨N, 0, none⟩) (show N < w2.heap.size by omega)).trans HX2.out)
  have HB3 : Hid (Below N w w3) := Lib.hid (HB2.out.trans (hb23.mono (by omega)))
  have HSZ : Hid (Maps.size (mapD L) = L.length) := Lib.hid (map_size L)
  have HCN : Hid (([] : List Int).length + Maps.size (mapD L) ≤ L.length) := Lib.hid (by rw [HSZ.out]; simp)
  have HSRT := Lib.hid HQ2.out.srt
  clear hrg0 hg0 hs0 hr2 hb23 x2 HY2 HF2 HX2 HB2 HS1 HS2 HM c0 HQ2
  go_frame
  go_loopw [4] (fun _ wi => ∃ (left : Lit → Bool) (cnt : Nat) (ss : List Int), Hid (wi.ranges Try.prog 3 putR b (N + 2) L.length (mapD L) left cnt) ∧ Hid (ColI (mapD L) left ss) ∧ Hid (Tl (N + 3) (N + 1) (N + 2) w3 wi ss) ∧ Hid (ss.length + cnt ≤ L.length)) (fun _ wi => wi.rangeLeft b (N + 2))
  case atStart => exact ⟨_, _, [], HRG0, Lib.hid (ColI.start _), HT0, HCN⟩
  case round =>
    obtain ⟨left, cnt, ss, HRG, HC, HT, HL⟩ := hrel
    clear HRG0 HT0 HCN HSZ
    go_wp2_with (at_next; refine wpList_next_ranges _ rfl _ rfl 3 intK putR (Value.int .i64) putV (fun key kl hk => by obtain ⟨x, hx, _⟩ := Maps.keyOf_int_inv Try.underlying3 hk; exact ⟨x, hx⟩) (fun v y hv => by obtain ⟨c, hc, _⟩ := putR_inv hv; exact ⟨c, hc⟩) b (N + 2) L.length (mapD L) left cnt rfl HRG.out ?_ ?_)
    · intro hc0 hl0
      have HP := Lib.hid (HC.out.perm HSRT.out hl0)
      obtain ⟨v, hc, ho⟩ := HT.out.row
      have hn1 : ss.length < 1000000 := by have := HL.out; omega
      have CS := Lib.hid (sort_any HT.out (by omega) hn1 hc ho HP.out HSRT.out)
      clear ho hl0 hc0
      go_wp2_with fail
      refine CS.out.mono ?_
      rintro e w5 ⟨rfl, s1, s2, s3, ao, c, s4, s5⟩
      have HTE : Hid (TeAt N w5 (N + 1) N (.pointer (some ⟨p, 0, none⟩)) ao c (L.map (·.1))) := Lib.hid ⟨by omega, Nat.le_refl _, (World.cell?_of_block (a := ⟨N, 0, none⟩) (s2 N (by omega) (by omega) (by omega))).trans HX3.out, s4, fun hp => by
        obtain ⟨g, o, e1, e2, e3, e4⟩ := s5 hp
        exact ⟨g, o, e1, by omega, e3, e4⟩⟩
      have HB5 : Hid (Below N w w5) := Lib.hid (HB3.out.trans (s1.mono (by omega)))
      clear s1 s2 s3 s4 s5 CS hc
      go_wp2_with fail
      go_ret
      exact ⟨N + 1, N, ao, c, rfl, by rw [hN.out]; exact HTE.out, by rw [hN.out]; exact HB5.out⟩
    · intro x ca cs kl yd yp w4 cnt4 hkey hlk hv hat hrg4 hlt hg4 hs4 hen
      obtain ⟨x', ex, rfl, hwx⟩ := Maps.keyOf_int_inv Try.underlying3 hkey
      cases ex
      have HC2 := Lib.hid (HC.out.step (x := x) hlk hat)
      have HT4 := Lib.hid (HT.out.next (by omega) (by omega) hg4)
      have HRG4 := Lib.hid hrg4
      have HLT := Lib.hid hlt
      have HRO := Lib.hid HRG.out.left_eq
      obtain ⟨v, hc, ho⟩ := HT4.out.row
      have hf := HT4.out.free
      have HO := Lib.hid ho
      have hbs := HT4.out.size
      have hssl : ss.length ≤ 100000 := by have := HL.out; omega
      clear hkey hlk hv hat hrg4 hlt hg4 hs4 ho hwx
      go_wp2_with (at_builtin; refine wpList_append_own _ rfl _ _ 54 rfl (N + 3) 3 i0 (.int .i64 0) 1 8 Try.underlying54 hi0 hz0 hz1 hz2 rfl (by decide) v ss.length (ss.map (Value.int .i64)) rfl (HO.out.alloc _) ⟨w4.heap.size, 0, none⟩ 1 1 [.int .i64 x] rfl rfl ?c1 ?c2 ?c3 ?c4 ?c5 ?_)
      case c1 =>
        intro q u hq
        match q, hq with
        | 0, hq => simp at hq; subst hq; exact World.cell?_alloc_at (w := w4) _ _ _ _ rfl
      case c2 => intro u hu; simp at hu; subst hu; rfl
      case c3 => unfold maxLen; omega
      case c4 => omega
      case c5 => simp; omega
      · intro v' w5 hown hg _
        obtain ⟨d1, d2, d3⟩ := HT4.out.push (by omega) hc HO.out hown hg
        have HT5 := Lib.hid d3
        have HRG5 := Lib.hid (ranges_push (base := N + 3) (l := N + 1) (v' := v') HRG4.out HO.out (by omega) (by omega) (by omega) (by omega) hg)
        have HL5 : Hid ((ss ++ [x]).length + cnt4 ≤ L.length) := Lib.hid (by have := HL.out; have := HLT.out; simp; omega)
        obtain ⟨a', c', rfl⟩ := own_slO hown
        clear hown hg d3 hc HO HT4 HRG4 hf
        go_wp2_with fail
        go_roundw
        case rel => exact ⟨_, cnt4, ss ++ [x], HRG5, HC2, HT5, HL5⟩
        case measure => rw [HRG5.out.left_eq, HRO.out]; exact HLT.out
set_option maxRecDepth 100000 in
set_option maxHeartbeats 4000000 in
theorem teller_nil (w : World) : Calls Try.prog 22 #[.pointer none] w fun e w' => ∃ l bx ao c, e = .returned (.func (.func 27) #[] #[.pointer (some ⟨l, 0, none⟩), .pointer (some ⟨bx, 0, none⟩)]) ∧ TeAt w.heap.size w' l bx (.pointer none) ao c [] ∧ Below w.heap.size w w' := by
  obtain ⟨w1, hw1⟩ : ∃ w1, w.alloc (.cells #[.pointer none] 23) = w1 := ⟨_, rfl⟩
  have B1 : Below w.heap.size w w1 := by rw [← hw1]; exact (Below.refl _ _).alloc (Nat.le_refl _) _
  have S1 : w1.heap.size = w.heap.size + 1 := by rw [← hw1]; simp
  have X1 : w1.cell? ⟨w.heap.size, 0, none⟩ = some (.pointer none) := by rw [← hw1]; exact World.cell?_alloc_at _ _ _ _ rfl
  obtain ⟨w2, hw2⟩ : ∃ w2, w1.alloc (.cells #[.slice none 0 0] 54) = w2 := ⟨_, rfl⟩
  have B2 : Below w1.heap.size w1 w2 := by rw [← hw2]; exact (Below.refl _ _).alloc (Nat.le_refl _) _
  have Y2 : w2.cell? ⟨w.heap.size + 1, 0, none⟩ = some (.slice none 0 0) := by rw [← hw2, ← S1]; exact World.cell?_alloc_at _ _ _ _ rfl
  have X2 : w2.cell? ⟨w.heap.size, 0, none⟩ = some (.pointer none) := (B2.cell (p := ⟨w.heap.size, 0, none⟩) (show w.heap.size < w1.heap.size by rw [S1]; omega)).trans X1
  have HB2 : Hid (Below w.heap.size w w2) := Lib.hid (B1.trans (B2.mono (by omega)))
  have HTE : Hid (TeAt w.heap.size w2 (w.heap.size + 1) w.heap.size (.pointer none) none 0 []) := Lib.hid ⟨by omega, Nat.le_refl _, X2, Y2, fun hp => absurd hp (by simp)⟩
  have HW1 := Lib.hid hw1
  have HW2 := Lib.hid hw2
  have HS1 := Lib.hid S1
  clear hw1 hw2 B1 S1 X1 B2
  go_enter Try.func22, Try.ntmps22
  go_upto_region 1 with fail
  rw [HW1.out]
  go_upto_region 2 with fail
  rw [HW2.out, HS1.out]
  clear HW1 HW2 HS1
  have CS := Lib.hid (Try.slices_Sort_int_none none 0 w2)
  go_wp2_with fail
  refine CS.out.mono ?_
  rintro e w3 ⟨rfl, rfl⟩
  go_wp2_with fail
  go_ret
  exact ⟨w.heap.size + 1, w.heap.size, none, 0, rfl, HTE.out, HB2.out⟩
theorem find_srt : ∀ {L : List Pu}, Srt L → ∀ i (hi : i < L.length), findL L L[i].1 = some L[i]
  | x :: r, h, 0, _ => by
    unfold findL
    show List.find? _ (x :: r) = some x
    rw [List.find?_cons_of_pos (by simp)]
  | x :: r, h, i + 1, hi => by
    have h' := List.pairwise_cons.1 h
    have hi' : i < r.length := by simpa using hi
    have ih := find_srt h'.2 i hi'
    have hlt := h'.1 r[i] (List.getElem_mem hi')
    unfold findL at ih ⊢
    show List.find? (fun p => decide (p.1 = r[i].1)) (x :: r) = some r[i]
    rw [List.find?_cons_of_neg (by simp; omega)]
    exact ih
theorem look_at {w : World} {b i : Nat} {L : List Pu} (h : MpAt w b L) (hs : Srt L) (hw : Wf L) (hi : i < L.length) : (Instr.lookup 45 (.map (some b)) (.int .i64 L[i].1) false).run Try.prog w = .ok (putV L[i]) w := by
  obtain ⟨v, ps, hrun, hv⟩ := World.ownsMap.lookup h intK Try.underlying45 (zero_put w) (zd := encS (0, ⟨#[]⟩)) (zp := []) rfl (key_of (hw L[i] (List.getElem_mem hi)))
  rw [map_at, find_srt hs i hi] at hv
  obtain ⟨x, rfl, hx⟩ := putR_inv hv
  injection hx with hx _
  obtain rfl := encS_inj hx
  exact hrun
set_option maxRecDepth 100000 in
set_option maxHeartbeats 4000000 in
theorem teller1_any (N l bx c fn : Nat) (pv cv : Value) (ao : Option Addr) (L : List Pu) (J : Nat → World → Prop) (w : World) (hn : L.length < 100000) (hJ : Hid (J 0 w))
    (heg : ∀ (args : Array Value) (w : World), (callFunc fn args).run Try.prog w = .ok (.enter fn args) w)
    (hT : Hid (∀ i w, J i w → TeAt N w l bx pv ao c (L.map (·.1)) ∧ (i < L.length → ∃ B p b, pv = .pointer (some ⟨p, 0, none⟩) ∧ ShAt w B p b L)))
    (hstep : Hid (∀ i (hi : i < L.length) w, J i w → Calls Try.prog fn #[putV L[i], cv] w fun e w' => e = .returned (.tuple #[]) ∧ J (i + 1) w')) :
    Calls Try.prog 27 #[.func (.func fn) #[] #[cv], .pointer (some ⟨l, 0, none⟩), .pointer (some ⟨bx, 0, none⟩)] w fun e w' => e = .returned (.tuple #[]) ∧ J L.length w' := by
  obtain ⟨_, _, x0, y0, _⟩ := (hT.out 0 w hJ.out).1
  have e0 : (L.map (·.1)).length = L.length := by simp
  have HE0 := Lib.hid e0
  rw [e0] at y0
  obtain ⟨n, hnn⟩ : ∃ n, Hid (L.length = n) := ⟨_, Lib.hid rfl⟩
  rw [hnn.out] at y0 hn ⊢
  clear e0
  go_enter Try.func27, Try.ntmps27
  go_wp2_with fail
  go_loopw [8, 5] (fun s8 _ wi => ∃ i : Nat, s8 = .int .i64 (i : Int) ∧ i ≤ n ∧ Hid (J i wi)) (fun s8 _ _ => n - (intOf s8).toNat)
  case atStart => exact ⟨0, rfl, by omega, hJ⟩
  case round =>
    clear x0 y0 hJ
    obtain ⟨i, rfl, hi, HJ⟩ := hrel
    by_cases hlt : i < n
    · have hli : (i : Int) < (n : Int) := by omega
      have hil : i < L.length := by rw [hnn.out]; exact hlt
      obtain ⟨⟨_, _, x1, _, hat⟩, hsh⟩ := hT.out i wr HJ.out
      obtain ⟨B, p, b, rfl, q⟩ := hsh hil
      obtain ⟨g, o, rfl, _, _, hc⟩ := hat (by rw [HE0.out]; omega)
      have c1 := hc i (by rw [HE0.out]; exact hil)
      have c0 := q.c0
      have hlk := look_at q.map q.srt q.wf hil
      have CS := hstep.out i hil wr HJ.out
      rw [List.getD_eq_getElem?_getD, List.getElem?_map, List.getElem?_eq_getElem hil] at c1
      replace c1 : wr.cell? ⟨g, o + i, none⟩ = some (.int .i64 L[i].1) := c1
      obtain ⟨⟨a, s⟩, hx⟩ : ∃ x, L[i] = x := ⟨_, rfl⟩
      rw [hx] at c1 hlk CS
      replace hlk : (Instr.lookup 45 (.map (some b)) (.int .i64 a) false).run Try.prog wr = .ok (.agg #[.int .i64 a, .string s]) wr := hlk
      replace c1 : wr.cell? ⟨g, o + i, none⟩ = some (.int .i64 a) := c1
      replace CS : Calls Try.prog fn #[.agg #[.int .i64 a, .string s], cv] wr fun e w' => e = .returned (.tuple #[]) ∧ J (i + 1) w' := CS
      have CS := Lib.hid CS
      clear hx hc hat hsh q hstep hT
      go_wp2_with fail
      refine CS.out.mono ?_
      rintro e w2 ⟨rfl, j2⟩
      have HJ2 := Lib.hid j2
      clear j2 CS HJ
      go_wp2_with fail
      go_roundw
      case rel => exact ⟨i + 1, by go_num, by omega, HJ2⟩
      case measure => simp [intOf]; omega
    · obtain rfl : i = n := by omega
      have hli : ¬ (i : Int) < (i : Int) := by omega
      go_wp2_with fail
      go_end0
      exact ⟨rfl, HJ.out⟩
end Go.Proofs.Ytbjlmpcbjppfdaa
