/- OracleTells: what is kept, what is counted (layer 6). -/
import Derived.Test.YtaneecmfgfkaaaaDoorOrZ
import Derived.Test.YtaneecmfgfkaaaaDoorOrO
import Derived.Test.YtaneecmfgfkaaaaDoorOrI
namespace Go.Proofs.YtaneecmfgfkaaaaDoor
open Go.RowKit Go.Deep Go.Maps
set_option linter.unusedVariables false
set_option linter.unusedSimpArgs false
theorem OrX.is_some {base : Nat} {w : World} {a : Addr} {X : Option OrS} (h : OrX base w (some a) X) : ∃ S, X = some S ∧ a = ⟨S.g, 0, none⟩ ∧ OrP base w S.g S.l S.tv S.sv S.b S.D := by
  match X, h with
  | Option.some S, h => exact ⟨S, rfl, h.1, h.2⟩
/-- The texts that are not too long, of the first k. -/
def keepL (L : List ByteArray) (k : Nat) : List ByteArray := (L.take k).filter fun s => decide (s.size ≤ 300)
theorem keepL_zero (L : List ByteArray) : keepL L 0 = [] := rfl
theorem keepL_yes (L : List ByteArray) (k : Nat) (h : k < L.length) (hs : (L[k]).size ≤ 300) : keepL L (k + 1) = keepL L k ++ [L[k]] := by
  unfold keepL
  rw [List.take_add_one, List.getElem?_eq_getElem h, Option.toList_some, List.filter_append]
  congr 1
  rw [List.filter_cons_of_pos (by simpa using hs)]
  rfl
theorem keepL_no (L : List ByteArray) (k : Nat) (h : k < L.length) (hs : ¬ (L[k]).size ≤ 300) : keepL L (k + 1) = keepL L k := by
  unfold keepL
  rw [List.take_add_one, List.getElem?_eq_getElem h, Option.toList_some, List.filter_append]
  rw [List.filter_cons_of_neg (by simpa using hs), List.filter_nil, List.append_nil]
theorem keepL_len (L : List ByteArray) (k : Nat) : (keepL L k).length ≤ k := Nat.le_trans (List.length_filter_le _ _) (by rw [List.length_take]; omega)
theorem keepL_size (L : List ByteArray) (k : Nat) : ∀ s ∈ keepL L k, s.size ≤ 300 := fun s hs => by
  have := (List.mem_filter.1 hs).2
  simpa using this
/-- How many of the first j are the one or the other. -/
def cntL (m : List ByteArray) (a b : ByteArray) (j : Nat) : Nat := ((m.take j).filter fun s => s.toList == a.toList || s.toList == b.toList).length
theorem cntL_zero (m : List ByteArray) (a b : ByteArray) : cntL m a b 0 = 0 := rfl
theorem cntL_yes (m : List ByteArray) (a b : ByteArray) (j : Nat) (h : j < m.length) (hs : ((m[j]).toList == a.toList || (m[j]).toList == b.toList) = true) : cntL m a b (j + 1) = cntL m a b j + 1 := by
  unfold cntL
  have e : List.filter (fun s : ByteArray => s.toList == a.toList || s.toList == b.toList) [m[j]] = [m[j]] := List.filter_cons_of_pos (p := (fun s : ByteArray => s.toList == a.toList || s.toList == b.toList)) hs
  rw [List.take_add_one, List.getElem?_eq_getElem h, Option.toList_some, List.filter_append, e, List.length_append]
  rfl
theorem cntL_no (m : List ByteArray) (a b : ByteArray) (j : Nat) (h : j < m.length) (hs : ((m[j]).toList == a.toList || (m[j]).toList == b.toList) = false) : cntL m a b (j + 1) = cntL m a b j := by
  unfold cntL
  have e : List.filter (fun s : ByteArray => s.toList == a.toList || s.toList == b.toList) [m[j]] = [] := List.filter_cons_of_neg (p := (fun s : ByteArray => s.toList == a.toList || s.toList == b.toList)) (by rw [hs]; simp)
  rw [List.take_add_one, List.getElem?_eq_getElem h, Option.toList_some, List.filter_append, e, List.append_nil]
theorem cntL_le (m : List ByteArray) (a b : ByteArray) (j : Nat) : cntL m a b j ≤ j := Nat.le_trans (List.length_filter_le _ _) (by rw [List.length_take]; omega)
theorem two_in {α : Type} (l : List α) (x y : α) (hx : x ∈ l) (hy : y ∈ l) (h : x ≠ y) : 2 ≤ l.length := by
  match l, hx, hy with
  | [], hx, _ => cases hx
  | [z], hx, hy => exact absurd ((List.mem_singleton.1 hx).trans (List.mem_singleton.1 hy).symm) h
  | _ :: _ :: _, _, _ => simp
theorem cntL_two (m : List ByteArray) (a b : ByteArray) (ha : a ∈ m) (hb : b ∈ m) (h : a ≠ b) : 2 ≤ cntL m a b m.length := by
  unfold cntL
  rw [List.take_length]
  exact two_in _ a b (List.mem_filter.2 ⟨ha, by simp⟩) (List.mem_filter.2 ⟨hb, by simp⟩) h
theorem ba_list_ne (s t : ByteArray) (h : s ≠ t) : (s.toList == t.toList) = false := by
  refine Bool.eq_false_iff.2 fun e => h ?_
  have h1 : s.toList = t.toList := by simpa using e
  rw [Lib.toList_data, Lib.toList_data] at h1
  cases s; cases t
  simp only [ByteArray.mk.injEq]
  exact Array.toList_inj.1 h1
theorem ba_list_ne_inv (s t : ByteArray) (h : (s.toList == t.toList) = false) : s.data.toList ≠ t.data.toList := fun e => by
  rw [Lib.toList_data, Lib.toList_data, e] at h
  simp at h
/-- What the oracle keeps: the bytes of the texts that were summed. -/
structure Kps (X : Option OrS) (m : List ByteArray) : Prop where
  so : ∃ S, X = some S ∧ ∀ t, t ∈ S.l ↔ ∃ s ∈ m, s.data.toList = t
theorem Kps.add {X X' : Option OrS} {m : List ByteArray} {s : ByteArray} (h : Kps X m) (hs : SumX X X' s.data.toList) : Kps X' (m ++ [s]) := by
  obtain ⟨S, e, hm⟩ := h.so
  obtain ⟨S', e', _, hl⟩ := hs.2 S e
  refine ⟨S', e', fun t => ?_⟩
  rw [hl, mem_orNext, hm t]
  constructor
  · rintro (⟨x, hx, rfl⟩ | rfl)
    · exact ⟨x, by simp [hx], rfl⟩
    · exact ⟨s, by simp, rfl⟩
  · rintro ⟨x, hx, rfl⟩
    rcases List.mem_append.1 hx with q | q
    · exact Or.inl ⟨x, q, rfl⟩
    · rw [List.mem_singleton.1 q]; exact Or.inr rfl
theorem own_cell {w : World} {base n : Nat} {e : TypeId} {a : Option Addr} {k c : Nat} {m : List ByteArray} (h : w.ownsRow base e 1 (.slice a k c) n (m.map Value.string)) (j : Nat) (hj : j < m.length) : ∃ g, a = some ⟨g, 0, none⟩ ∧ g < w.heap.size ∧ w.cell? ⟨g, j, none⟩ = some (.string m[j]) := by
  have hn : n = m.length := by have := h.1; rw [List.length_map, Nat.mul_one] at this; exact this.symm
  obtain ⟨g, c', e1, _, _, hg, hr⟩ := own_rowG h (by omega)
  cases e1
  refine ⟨g, rfl, hg, ?_⟩
  have := hr j (.string m[j]) (by rw [List.getElem?_map, List.getElem?_eq_getElem hj]; rfl)
  rwa [Nat.zero_add] at this
theorem own_below1 {w w' : World} {B base n size : Nat} {e : TypeId} {v : Value} {xs : List Value} (h : w.ownsRow base e size v n xs) (hb : Below B w w') (hB : w.heap.size ≤ B) : w'.ownsRow base e size v n xs := by
  refine ⟨h.1, ?_⟩
  rcases h.2 with q | ⟨g, cap, cur, rfl, q1, q2, q3⟩
  · exact Or.inl q
  · exact Or.inr ⟨g, cap, cur, rfl, q1, (hb.block g (Nat.lt_of_lt_of_le (Array.getElem?_eq_some_iff.1 q2).1 hB)).trans q2, q3⟩
end Go.Proofs.YtaneecmfgfkaaaaDoor
