/- Rows of blocks that go from one anchor to one anchor: the same, or two unlike texts of one sum (layer 14). -/
import Derived.Test.YtaneecmfgfkaaaaDoorChH
namespace Go.Proofs.YtaneecmfgfkaaaaDoor
open Go.RowKit Go.Deep Go.Maps
set_option linter.unusedVariables false
set_option linter.unusedSimpArgs false
theorem blk64 (b : ByteArray) (h : b.size = 64) : b.data.toList.length = 64 := by rw [← h]; rfl
theorem cat_inj : ∀ (L M : List ByteArray), (∀ b ∈ L, b.size = 64) → (∀ b ∈ M, b.size = 64) → (L.map (·.data.toList)).flatten = (M.map (·.data.toList)).flatten → L = M
  | [], [], _, _, _ => rfl
  | [], m :: M, _, h, e => by
    have h1 := blk64 m (h m (by simp))
    have h2 := congrArg List.length e
    simp only [List.map_nil, List.flatten_nil, List.length_nil, List.map_cons, List.flatten_cons, List.length_append] at h2
    omega
  | l :: L, [], h, _, e => by
    have h1 := blk64 l (h l (by simp))
    have h2 := congrArg List.length e
    simp only [List.map_nil, List.flatten_nil, List.length_nil, List.map_cons, List.flatten_cons, List.length_append] at h2
    omega
  | l :: L, m :: M, hl, hm, e => by
    have h1 := blk64 l (hl l (by simp))
    have h2 := blk64 m (hm m (by simp))
    simp only [List.map_cons, List.flatten_cons] at e
    obtain ⟨e1, e2⟩ := List.append_inj e (by rw [h1, h2])
    have e3 : l = m := by
      cases l; cases m
      simp only [ByteArray.mk.injEq]
      exact Array.toList_inj.1 e1
    rw [e3, cat_inj L M (fun b hb => hl b (by simp [hb])) (fun b hb => hm b (by simp [hb])) e2]
theorem nextT_inj (a b : List UInt8) (L M : List ByteArray) (ha : a.length = 32) (hb : b.length = 32) (hL : okB L = true) (hM : okB M = true) (e : nextT a L = nextT b M) : a = b ∧ L = M := by
  unfold nextT at e
  rw [List.append_assoc, List.append_assoc] at e
  have e1 := List.append_cancel_left e
  obtain ⟨e2, e3⟩ := List.append_inj e1 (by rw [ha, hb])
  rw [catL_flat, catL_flat] at e3
  exact ⟨e2, cat_inj L M (okB_inv L hL).2 (okB_inv M hM).2 e3⟩
theorem along_apart (a : List UInt8) (ha : a.length = 32) (R Q : List (List ByteArray)) (hR : ∀ i (h : i < R.length), okB R[i] = true) (hQ : ∀ i (h : i < Q.length), okB Q[i] = true) : ∀ n, n ≤ R.length → n ≤ Q.length → alL a R n = alL a Q n →
    R.take n = Q.take n ∨ ∃ s t : List UInt8, s ∈ alT a R n ∧ t ∈ alT a Q n ∧ s ≠ t ∧ sumL s = sumL t
  | 0, _, _, _ => Or.inl rfl
  | n + 1, hr, hq, e => by
    have er : R[n]?.getD [] = R[n] := by rw [List.getElem?_eq_getElem (by omega)]; rfl
    have eq : Q[n]?.getD [] = Q[n] := by rw [List.getElem?_eq_getElem (by omega)]; rfl
    by_cases ht : nextT (alL a R n) (R[n]?.getD []) = nextT (alL a Q n) (Q[n]?.getD [])
    · obtain ⟨e1, e2⟩ := nextT_inj _ _ _ _ (alL_len a R ha n) (alL_len a Q ha n) (by rw [er]; exact hR n (by omega)) (by rw [eq]; exact hQ n (by omega)) ht
      rcases along_apart a ha R Q hR hQ n (by omega) (by omega) e1 with q | ⟨s, t, h1, h2, h3, h4⟩
      · left
        rw [er, eq] at e2
        rw [List.take_add_one, List.take_add_one, List.getElem?_eq_getElem (by omega), List.getElem?_eq_getElem (by omega), q, e2]
      · exact Or.inr ⟨s, t, List.mem_append_left _ h1, List.mem_append_left _ h2, h3, h4⟩
    · exact Or.inr ⟨_, _, List.mem_append_right _ (List.mem_singleton.2 rfl), List.mem_append_right _ (List.mem_singleton.2 rfl), ht, e⟩
/-- Rows of as many steps. -/
theorem rows_apart (a : List UInt8) (ha : a.length = 32) (R Q : List (List ByteArray)) (hR : ∀ i (h : i < R.length), okB R[i] = true) (hQ : ∀ i (h : i < Q.length), okB Q[i] = true) (hl : R.length = Q.length) (hne : R ≠ Q) (e : alL a R R.length = alL a Q R.length) : ∃ s t : List UInt8, s ∈ alT a R R.length ∧ t ∈ alT a Q R.length ∧ s ≠ t ∧ sumL s = sumL t := by
  rcases along_apart a ha R Q hR hQ R.length (Nat.le_refl _) (by omega) e with q | q
  · rw [List.take_length, hl, List.take_length] at q
    exact absurd q hne
  · exact q
theorem next_apart (a : List UInt8) (ha : a.length = 32) (L M : List ByteArray) (hL : okB L = true) (hM : okB M = true) (hne : L ≠ M) (e : nextL a L = nextL a M) : nextT a L ≠ nextT a M ∧ sumL (nextT a L) = sumL (nextT a M) :=
  ⟨fun h => hne (nextT_inj a a L M ha ha hL hM h).2, e⟩
end Go.Proofs.YtaneecmfgfkaaaaDoor
