/- What is seen, as texts (flat); the reference's Full. -/
import Derived.Test.YtaemnelfnopjdaaFbC
import Derived.Test.YtaemnelfnopjdaaFbA
namespace Go.Proofs.Ytaemnelfnopjdaa
open Go.RowKit Go.Deep Go.Maps
set_option linter.unusedVariables false
set_option linter.unusedSimpArgs false
theorem pcF_tx {T : List (List UInt8)} (h : all48 T) {v : List Nat} (hv : valid T v) {i : Nat} (hi : i < v.length) : pcF (tx T v) i = T.getD v[i] [] := by
  unfold pcF
  rw [tx_drop h hv, show 48 = 48 * 1 from rfl, tx_take h (valid_drop hv i), show (v.drop i).take 1 = [v[i]] from by rw [List.drop_eq_getElem_cons hi]; rfl]
  simp [tx]
theorem pcs_tx {T : List (List UInt8)} (h : all48 T) {v : List Nat} (hv : valid T v) : pcs (tx T v) v.length = v.map fun x => T.getD x [] := by
  unfold pcs
  apply List.ext_getElem?
  intro i
  rw [List.getElem?_map, List.getElem?_map]
  by_cases hi : i < v.length
  · rw [List.getElem?_range hi, List.getElem?_eq_getElem hi]
    simp only [Option.map_some]
    rw [pcF_tx h hv hi]
  · rw [List.getElem?_eq_none (by simp; omega), List.getElem?_eq_none (by omega)]; rfl
theorem idx_getD {T : List (List UInt8)} (h : T.Nodup) {x : Nat} (hx : x < T.length) : T.idxOf (T.getD x []) = x := by
  rw [List.getD_eq_getElem?_getD, List.getElem?_eq_getElem hx]
  exact List.Nodup.idxOf_getElem h x hx
theorem num_tx {T : List (List UInt8)} (h : all48 T) (hn : T.Nodup) {v : List Nat} (hv : valid T v) : numL T (pcs (tx T v) v.length) = v ∧ allIn T (pcs (tx T v) v.length) := by
  rw [pcs_tx h hv]
  refine ⟨?_, fun p hp => ?_⟩
  · unfold numL
    rw [List.map_map]
    have : ∀ v : List Nat, valid T v → v.map ((fun p => T.idxOf p) ∘ fun x => T.getD x []) = v := fun v => by
      induction v with
      | nil => intro _; rfl
      | cons x v ih =>
        intro hv
        rw [List.map_cons, ih (fun y hy => hv y (by simp [hy]))]
        congr 1
        exact idx_getD hn (hv x (by simp))
    exact this v hv
  · obtain ⟨x, hx, rfl⟩ := List.mem_map.1 hp
    rw [List.getD_eq_getElem?_getD, List.getElem?_eq_getElem (hv x hx)]
    exact List.getElem_mem _
theorem tx_num {T : List (List UInt8)} : ∀ {ps : List (List UInt8)}, allIn T ps → tx T (numL T ps) = ps.flatten
  | [], _ => rfl
  | p :: ps, h => by
    have ih := tx_num (ps := ps) (fun q hq => h q (by simp [hq]))
    have hm := h p (by simp)
    have hl : T.idxOf p < T.length := List.idxOf_lt_length_iff.2 hm
    unfold tx numL at ih ⊢
    rw [List.map_cons, List.flatMap_cons, ih, List.flatten_cons]
    congr 1
    rw [List.getD_eq_getElem?_getD, List.getElem?_eq_getElem hl]
    exact List.getElem_idxOf hl
theorem num_iff {T : List (List UInt8)} (h : all48 T) (hn : T.Nodup) {v : List Nat} (hv : valid T v) {l : List UInt8} (hl : l.length = 48 * v.length) : tx T v = l ↔ (allIn T (pcs l v.length) ∧ v = numL T (pcs l v.length)) := by
  constructor
  · rintro rfl
    obtain ⟨h1, h2⟩ := num_tx h hn hv
    exact ⟨h2, h1.symm⟩
  · rintro ⟨h1, h2⟩
    have := tx_num h1
    rw [← h2] at this
    rw [this, pcs_flat l _ (by omega), List.take_of_length_le (by omega)]
/-- A chain's last state has these blocks, or its text has this piece. -/
theorem like_tx {M : Fl} (hok : FlOk M) {f : List Nat} (hf : f ∈ M.F) {a k : Nat} {l : List UInt8} (hl : l.length = 48 * k) (hak : a + k ≤ M.n) :
    (allIn M.T (pcs l k) ∧ likeB (foldC M.C f) a (numL M.T (pcs l k)) = true) ↔ ((stx M (foldC M.C f)).drop (48 * a)).take (48 * k) = l := by
  have hv := foldC_valid hok hf
  have h64 := foldC_64 hok hf
  have hn64 := hok.n64
  generalize foldC M.C f = s at *
  have e : ((stx M s).drop (48 * a)).take (48 * k) = tx M.T ((s.drop a).take k) := by
    unfold stx
    rw [tx_drop hok.t48 (valid_take hv _), tx_take hok.t48 (valid_drop (valid_take hv _) _)]
    congr 1
    rw [List.drop_take, List.take_take, Nat.min_eq_left (by omega)]
  have hvl : ((s.drop a).take k).length = k := by rw [List.length_take, List.length_drop]; omega
  rw [e]
  have := num_iff hok.t48 hok.nd (valid_take (valid_drop hv a) k) (l := l) (by rw [hvl]; exact hl)
  rw [hvl] at this
  rw [this]
  have hnl : (numL M.T (pcs l k)).length = k := by unfold numL; rw [List.length_map, pcs_len]
  unfold likeB
  rw [hnl, beq_iff_eq]
theorem seg_all {M : Fl} (hok : FlOk M) {f : List Nat} (hf : f ∈ M.F) : ((stx M (foldC M.C f)).drop (48 * 0)).take (48 * M.n) = stx M (foldC M.C f) := by
  rw [Nat.mul_zero, List.drop_zero]
  apply List.take_of_length_le
  unfold stx
  rw [tx_len hok.t48 (valid_take (foldC_valid hok hf) _), List.length_take]
  exact Nat.mul_le_mul_left _ (Nat.min_le_left _ _)
/-- States of one text are one. -/
theorem st_ext {M : Fl} (hok : FlOk M) {s t : List Nat} (hs : s.length = 64 ∧ valid M.T s ∧ s.drop M.n = List.replicate (64 - M.n) 0) (ht : t.length = 64 ∧ valid M.T t ∧ t.drop M.n = List.replicate (64 - M.n) 0) (h : stx M s = stx M t) : s = t := by
  have hl : (s.take M.n).length = (t.take M.n).length := by rw [List.length_take, List.length_take, hs.1, ht.1]
  unfold stx at h
  have h1 := num_tx hok.t48 hok.nd (valid_take hs.2.1 M.n)
  have h2 := num_tx hok.t48 hok.nd (valid_take ht.2.1 M.n)
  rw [h, hl] at h1
  have e : s.take M.n = t.take M.n := h1.1.symm.trans h2.1
  rw [← List.take_append_drop M.n s, ← List.take_append_drop M.n t, e, hs.2.2, ht.2.2]
theorem saw_all {M : Fl} (hok : FlOk M) (hC : M.C = []) {s : ByteArray} (hs : s.size = 48 * M.n) : sawB M 0 s = decide (∃ f ∈ M.F, stx M f = s.data.toList) := by
  have hn1 := hok.n1
  have hw : wholeN s.size = M.n := by unfold wholeN; rw [hs, if_pos (by omega)]; omega
  have hr : refF M.n 0 (M.n : Int) = 0 := by unfold refF; rw [if_neg (by omega), if_neg (by omega)]
  have hl : s.data.toList.length = 48 * M.n := by rw [Array.length_toList]; exact hs
  unfold sawB
  rw [hw, hr, decide_eq_true rfl, Bool.true_and, show ((0 : Int)).toNat = 0 from rfl]
  have key : ∀ f ∈ M.F, (allIn M.T (pcs s.data.toList M.n) ∧ likeB (foldC M.C f) 0 (numL M.T (pcs s.data.toList M.n)) = true) ↔ stx M f = s.data.toList := fun f hf => by
    have h1 := like_tx hok hf (a := 0) (k := M.n) hl (by omega)
    have h2 := seg_all hok hf
    rw [h2] at h1
    rw [h1, hC]; rfl
  by_cases hx : ∃ f ∈ M.F, stx M f = s.data.toList
  · rw [decide_eq_true hx]
    obtain ⟨f, hf, e⟩ := hx
    obtain ⟨h1, h2⟩ := (key f hf).2 e
    rw [decide_eq_true h1, Bool.true_and]
    have : f ∈ sawL M 0 (numL M.T (pcs s.data.toList M.n)) := List.mem_filter.2 ⟨hf, h2⟩
    cases hq : sawL M 0 (numL M.T (pcs s.data.toList M.n)) with
    | nil => rw [hq] at this; cases this
    | cons x r => rfl
  · rw [decide_eq_false hx]
    by_cases h1 : allIn M.T (pcs s.data.toList M.n)
    · rw [decide_eq_true h1, Bool.true_and]
      cases hq : sawL M 0 (numL M.T (pcs s.data.toList M.n)) with
      | nil => rfl
      | cons x r =>
        have hm : x ∈ sawL M 0 (numL M.T (pcs s.data.toList M.n)) := by rw [hq]; simp
        obtain ⟨hf, h2⟩ := List.mem_filter.1 hm
        exact absurd ⟨x, hf, (key x hf).1 ⟨h1, h2⟩⟩ hx
    · rw [decide_eq_false h1]; rfl
theorem crashL_nodup (M : Fl) : (crashL M).Nodup := by
  unfold crashL crL
  have : ∀ (xs L : List (List Nat)), L.Nodup → (xs.foldl addL L).Nodup := fun xs => by
    induction xs with
    | nil => intro L h; exact h
    | cons x xs ih =>
      intro L h
      rw [List.foldl_cons]
      apply ih
      unfold addL
      split
      · exact h
      · rename_i hno
        exact List.nodup_append.2 ⟨h, by simp, fun a ha b hb => by rw [List.mem_singleton.1 hb]; exact fun e => hno (e ▸ ha)⟩
  exact this _ _ List.nodup_nil
theorem filter_one {α : Type} [DecidableEq α] {L : List α} (h : L.Nodup) {x : α} (hx : x ∈ L) {p : α → Bool} (hp : ∀ y ∈ L, p y = true ↔ y = x) : L.filter p = [x] := by
  induction L with
  | nil => cases hx
  | cons y r ih =>
    have hnd := List.nodup_cons.1 h
    by_cases e : y = x
    · subst e
      rw [List.filter_cons, if_pos ((hp y (by simp)).2 rfl)]
      congr 1
      rw [List.filter_eq_nil_iff]
      intro z hz hpz
      have := (hp z (by simp [hz])).1 hpz
      subst this
      exact hnd.1 hz
    · have hxr : x ∈ r := by
        rcases List.mem_cons.1 hx with h1 | h1
        · exact absurd h1.symm e
        · exact h1
      rw [List.filter_cons, if_neg (fun h1 => e ((hp y (by simp)).1 h1))]
      exact ih hnd.2 hxr (fun z hz => hp z (by simp [hz]))
set_option maxRecDepth 100000 in
theorem full_short (s : ByteArray) (n : Nat) (w : World) (h : s.size < n) (hn : n ≤ 10000) : Calls Try.prog 23 #[.string s, .int .i64 (n : Int)] w fun e w' => e = .returned (.string (s ++ ⟨(List.replicate (n - s.size) (0 : UInt8)).toArray⟩)) ∧ Below w.heap.size w w' := by
  have CZ := Lib.hid (zeros_anyF (n - s.size) w (by omega))
  obtain ⟨m, hm⟩ : ∃ m, n - s.size = m := ⟨_, rfl⟩
  rw [hm] at CZ ⊢
  have h1 : ¬ (n : Int) ≤ (s.size : Int) := by omega
  have e1 : (n : Int) - (s.size : Int) = (m : Int) := by omega
  have hz : (⟨(List.replicate m (0 : UInt8)).toArray⟩ : ByteArray).size = m := by rw [bytes_size, List.length_replicate]
  generalize (⟨(List.replicate m (0 : UInt8)).toArray⟩ : ByteArray) = Z at *
  have hc : (9223372036854775807 < s.size + Z.size) = False := by rw [hz]; simp; omega
  clear hz
  go_enter Try.func23, Try.ntmps23
  go_wp2_with fail
  refine CZ.out.mono ?_
  rintro e w1 ⟨rfl, b1⟩
  have HB := Lib.hid b1
  clear CZ b1
  go_wp2_with fail
  go_ret
  exact ⟨rfl, HB.out⟩
theorem full_long (s : ByteArray) (n : Nat) (w : World) (h : n ≤ s.size) : Calls Try.prog 23 #[.string s, .int .i64 (n : Int)] w fun e w' => e = .returned (.string s) ∧ w = w' := by
  have h1 : (n : Int) ≤ (s.size : Int) := by omega
  go_enter Try.func23, Try.ntmps23
  go_wp2_with fail
  go_ret
  exact ⟨rfl, rfl⟩
end Go.Proofs.Ytaemnelfnopjdaa
