/- Forgetting a text: the list, the map of places, the rows (layer 6). -/
import Derived.Test.YtaneecmfgfkaaaaDoorOtA
namespace Go.Proofs.YtaneecmfgfkaaaaDoor
open Go.RowKit Go.Deep Go.Maps
set_option linter.unusedVariables false
set_option linter.unusedSimpArgs false
theorem split_mem {α : Type} [DecidableEq α] {l : List α} {s : α} (h : s ∈ l) : ∃ l1 l2, l = l1 ++ s :: l2 ∧ s ∉ l1 := by
  induction l with
  | nil => cases h
  | cons a l ih =>
    by_cases e : a = s
    · subst e; exact ⟨[], l, rfl, by simp⟩
    · have h' : s ∈ l := by
        rcases List.mem_cons.1 h with q | q
        · exact absurd q.symm e
        · exact q
      obtain ⟨l1, l2, e1, e2⟩ := ih h'
      refine ⟨a :: l1, l2, by rw [e1]; rfl, ?_⟩
      intro hm
      rcases List.mem_cons.1 hm with q | q
      · exact e q.symm
      · exact e2 q
theorem idx_split {l1 l2 : List (List UInt8)} {s : List UInt8} (h : s ∉ l1) : (l1 ++ s :: l2).idxOf s = l1.length := by
  rw [List.idxOf_append, if_neg h, List.idxOf_cons_self]
  omega
theorem idx_left {l1 l2 : List (List UInt8)} {t : List UInt8} (h : t ∈ l1) : (l1 ++ l2).idxOf t = l1.idxOf t := by rw [List.idxOf_append, if_pos h]
theorem idx_right {l1 l2 : List (List UInt8)} {t : List UInt8} (h : t ∉ l1) : (l1 ++ l2).idxOf t = l2.idxOf t + l1.length := by rw [List.idxOf_append, if_neg h]
/-- The map on its way, behind the cut at place i: of the kept texts, those below i + k are told right, the others one too high. -/
structure Mid (D : DataW Unit) (l : List (List UInt8)) (i k : Nat) : Prop where
  mp : IsMap D
  td : Tidy D
  hs : ∀ t : List UInt8, has D (kS t) = decide (t ∈ l)
  at_ : ∀ t : List UInt8, t ∈ l → D.atKey (kS t) (.lit (.int .i64 0)) = .lit (.int .i64 ((if l.idxOf t < i + k then l.idxOf t else l.idxOf t + 1 : Nat) : Int))
  sz : Maps.size D ≤ l.length
theorem Mid.start {D : DataW Unit} {l1 l2 : List (List UInt8)} {s : List UInt8} (h : Idx D (l1 ++ s :: l2)) (ht : Tidy D) (hs : s ∉ l1) (hnd : (l1 ++ s :: l2).Nodup) (hz : Maps.size D ≤ (l1 ++ s :: l2).length) : Mid (D.del (kS s)) (l1 ++ l2) l1.length 0 := by
  have hs2 : s ∉ l2 := by
    have := (List.nodup_append.1 hnd).2.1
    exact (List.nodup_cons.1 this).1
  have hD : has D (kS s) = true := by rw [(h s).1]; exact decide_eq_true (by simp)
  refine ⟨ht.isMap.del _, ht.del _, fun t => ?_, fun t hm => ?_, ?_⟩
  · by_cases e : t = s
    · subst e
      rw [has_del_same]
      exact (decide_eq_false (by simp [hs, hs2])).symm
    · rw [has_del_other (kS_ne e), (h t).1]
      congr 1
      simp [e]
  · have e : t ≠ s := fun e => by subst e; simp [hs, hs2] at hm
    rw [atKey_del_other (kS_ne e), (h t).2 (by simp at hm ⊢; rcases hm with q | q; exact Or.inl q; exact Or.inr (Or.inr q))]
    congr 3
    by_cases q : t ∈ l1
    · rw [idx_left q, idx_left q, if_pos (by have := List.idxOf_lt_length_iff.2 q; omega)]
    · rw [idx_right q, idx_right q, if_neg (by omega), List.idxOf_cons, show (s == t) = false from beq_eq_false_iff_ne.2 (Ne.symm e), cond_false]
      omega
  · have := size_del (k := kS s) ht
    rw [hD, if_pos rfl] at this
    simp only [List.length_append, List.length_cons] at hz ⊢
    omega
theorem Mid.step {D : DataW Unit} {l : List (List UInt8)} {i k : Nat} (h : Mid D l i k) (hk : i + k < l.length) (hnd : l.Nodup) : Mid (D.put (kS l[i + k]) (.lit (.int .i64 ((i + k : Nat) : Int)))) l i (k + 1) := by
  have hh : has D (kS l[i + k]) = true := by rw [h.hs]; exact decide_eq_true (List.getElem_mem hk)
  have hix : l.idxOf l[i + k] = i + k := List.Nodup.idxOf_getElem hnd (i + k) hk
  refine ⟨h.mp.put _ _, h.td.put (kS_lit _) _, fun t => ?_, fun t hm => ?_, ?_⟩
  · by_cases e : t = l[i + k]
    · rw [e, has_put_same h.mp (kS_lit _)]
      exact (decide_eq_true (List.getElem_mem hk)).symm
    · rw [has_put_other (kS_ne e), h.hs]
  · by_cases e : t = l[i + k]
    · rw [e, atKey_put_same h.mp (kS_lit _), hix, if_pos (by omega)]
    · rw [atKey_put_other (kS_ne e), h.at_ t hm]
      have hne : l.idxOf t ≠ i + k := fun q => e (by
        have h1 := List.getElem_idxOf (List.idxOf_lt_length_iff.2 hm)
        rw [← h1]
        congr 1)
      congr 3
      by_cases q : l.idxOf t < i + k
      · rw [if_pos q, if_pos (by omega)]
      · rw [if_neg q, if_neg (by omega)]
  · rw [size_put h.td, if_pos hh]
    exact h.sz
theorem Mid.done {D : DataW Unit} {l : List (List UInt8)} {i k : Nat} (h : Mid D l i k) (hk : l.length ≤ i + k) : Idx D l := fun t => ⟨h.hs t, fun hm => by
  rw [h.at_ t hm, if_pos (by have := List.idxOf_lt_length_iff.2 hm; omega)]⟩
theorem own_tight {w : World} {P : Program} {k : TypeId} {R : Value → Option (DataW Unit × List MemPlace)} {b n m : Nat} {D : DataW Unit} (h : w.ownsMap P k R b n D) (hm : Maps.size D ≤ m) : w.ownsMap P k R b m D := by
  obtain ⟨es, clock, hb, F, hs, rfl⟩ := h
  refine ⟨es, clock, hb, F, ?_, rfl⟩
  rw [size_eq, length_read] at hm
  exact hm
/-- A row of one's own, cut in the middle, in place. -/
theorem own_cut {w : World} {base size : Nat} {e : TypeId} {g cap : Nat} {xs ys zs : List Value} {n1 n2 : Nat} (h : w.ownsRow base e size (.slice (some ⟨g, 0, none⟩) (n1 + 1 + n2) cap) (n1 + 1 + n2) (xs ++ ys ++ zs)) (hx : xs.length = n1 * size) (hy : ys.length = size) (hz : zs.length = n2 * size) :
    (w.setCells g (0 + n1 * size) zs).ownsRow base e size (.slice (some ⟨g, 0, none⟩) (n1 + n2) cap) (n1 + n2) (xs ++ zs) := by
  refine ⟨by rw [List.length_append, hx, hz, Nat.add_mul], Or.inr ?_⟩
  rcases h.2 with ⟨e1, _⟩ | ⟨g', cap', cur, e1, hb, hg, hnc, hcm, hcs, htk⟩
  · cases e1
  · cases e1
    have hsz : (xs ++ ys ++ zs).length = (n1 + 1 + n2) * size := h.1
    have hcu : (n1 + 1 + n2) * size ≤ cap * size := Nat.mul_le_mul_right size hnc
    have e2 : (n1 + 1 + n2) * size = n1 * size + size + n2 * size := by rw [Nat.add_mul, Nat.add_mul, Nat.one_mul]
    have e3 : (n1 + n2) * size = n1 * size + n2 * size := Nat.add_mul _ _ _
    have hat : ∀ j, j < (n1 + 1 + n2) * size → cur[j]? = (xs ++ ys ++ zs)[j]? := fun j hj => by
      have h1 : (cur.toList.take ((n1 + 1 + n2) * size))[j]? = (xs ++ ys ++ zs)[j]? := by rw [htk]
      rw [List.getElem?_take_of_lt hj, Array.getElem?_toList] at h1
      exact h1
    have hth : w.there g (0 + n1 * size) zs.length := fun j hj => by
      refine ⟨?_, frozen_of_row w g _ _ _ hg⟩
      rw [cell_of_row w g _ _ _ _ hg, Array.getElem?_eq_getElem (by omega)]
      rfl
    obtain ⟨c', q1, q2, q3⟩ := setCells_cells g e zs (0 + n1 * size) w cur hg
    have hr := World.rangeAt_setCells_same w g (0 + n1 * size) zs hth
    refine ⟨g, cap, c', rfl, hb, q1, by omega, hcm, by omega, ?_⟩
    apply List.ext_getElem?
    intro j
    by_cases hj : j < (n1 + n2) * size
    · rw [List.getElem?_take_of_lt hj, Array.getElem?_toList]
      by_cases hj1 : j < n1 * size
      · rw [q3 j (by omega), hat j (by omega), List.append_assoc, List.getElem?_append_left (by omega), List.getElem?_append_left (by omega)]
      · obtain ⟨d, rfl⟩ : ∃ d, j = n1 * size + d := ⟨j - n1 * size, by omega⟩
        rw [List.getElem?_append_right (by omega), hx, show n1 * size + d - n1 * size = d from by omega]
        have hd : d < zs.length := by omega
        have h5 := hr d zs[d] (List.getElem?_eq_getElem hd)
        rw [cell_of_row _ g _ _ _ _ q1, show 0 + n1 * size + d = n1 * size + d from by omega] at h5
        rw [h5, List.getElem?_eq_getElem hd]
    · rw [List.getElem?_eq_none (by rw [List.length_take]; omega), List.getElem?_eq_none (by rw [List.length_append]; omega)]
end Go.Proofs.YtaneecmfgfkaaaaDoor
