/- Slots: the reference's Busy, Set. -/
import Derived.Test.YthhgodfgigcacaaSlN
import Derived.Laws.OwnMore
namespace Go.Proofs.Ythhgodfgigcacaa
open Go.RowKit Go.Deep
set_option linter.unusedVariables false
set_option linter.unusedSimpArgs false
set_option maxRecDepth 100000 in
set_option maxHeartbeats 4000000 in
theorem rbusy_any (s : Sl) (w : World) : Calls Try.prog 29 #[.agg #[.int .i64 s.g, .bool s.v0, .bool s.v1, .bool s.v2, .bool s.v3, .bool s.d0, .bool s.d1, .bool s.d2, .bool s.d3, .int .i64 s.l]] w fun e w' => e = .returned (.bool s.busy) ∧ Below w.heap.size w w' := by
  obtain ⟨w1, hw1⟩ : ∃ w1, Hid (w.alloc (.cells #[.int .i64 s.g, .bool s.v0, .bool s.v1, .bool s.v2, .bool s.v3, .bool s.d0, .bool s.d1, .bool s.d2, .bool s.d3, .int .i64 s.l] 44) = w1) := ⟨_, Lib.hid rfl⟩
  obtain ⟨a, ha⟩ : ∃ a, Hid (w.heap.size = a) := ⟨_, Lib.hid rfl⟩
  have HB1 : Hid (Below w.heap.size w w1) := Lib.hid (by rw [← hw1.out]; exact (Below.refl _ _).alloc (Nat.le_refl _) _)
  have hr2 : w1.heap[a]? = some (.cells #[.int .i64 s.g, .bool s.v0, .bool s.v1, .bool s.v2, .bool s.v3, .bool s.d0, .bool s.d1, .bool s.d2, .bool s.d3, .int .i64 s.l] 44 (0, 0)) := by rw [← hw1.out, ← ha.out]; exact heap_alloc_new _ _
  obtain ⟨R, hR⟩ : ∃ R, Hid (s.busy = R) := ⟨_, Lib.hid rfl⟩
  rw [hR.out]
  have hc : ∀ j v, (#[.int .i64 s.g, .bool s.v0, .bool s.v1, .bool s.v2, .bool s.v3, .bool s.d0, .bool s.d1, .bool s.d2, .bool s.d3, .int .i64 s.l] : Array Value)[j]? = some v → w1.cell? ⟨a, j, none⟩ = some v := fun j v e => row_cell22 hr2 j v e
  obtain ⟨g, v0, v1, v2, v3, d0, d1, d2, d3, l⟩ := s
  have q5 : w1.cell? ⟨a, 5, none⟩ = some (.bool d0) := hc 5 _ rfl
  have q6 : w1.cell? ⟨a, 6, none⟩ = some (.bool d1) := hc 6 _ rfl
  have q7 : w1.cell? ⟨a, 7, none⟩ = some (.bool d2) := hc 7 _ rfl
  have q8 : w1.cell? ⟨a, 8, none⟩ = some (.bool d3) := hc 8 _ rfl
  clear hc hr2
  go_enter Try.func29, Try.ntmps29
  go_upto_region 1 with fail
  rw [hw1.out, ha.out]
  clear hw1 ha
  go_wp2_with fail
  go_loopw [3] (fun s3 wi => ∃ k : Nat, s3 = .int .i64 (k : Int) ∧ k ≤ 4 ∧ Hid (∀ j, j < k → Sl.d ⟨g, v0, v1, v2, v3, d0, d1, d2, d3, l⟩ j = false) ∧ w1 = wi) (fun s3 _ => 4 - (intOf s3).toNat)
  case atStart => exact ⟨0, rfl, by omega, Lib.hid (fun j h => absurd h (by omega)), rfl⟩
  case round =>
    obtain ⟨k, rfl, hk, HN, rfl⟩ := hrel
    by_cases hlt : k < 4
    · rcases (show k = 0 ∨ k = 1 ∨ k = 2 ∨ k = 3 by omega) with rfl | rfl | rfl | rfl
      · rw [show ((0 : Nat) : Int) = 0 from rfl]
        cases d0 with
        | true =>
          go_wp2_with fail
          go_ret
          exact ⟨by rw [← hR.out]; unfold Sl.busy; simp, HB1.out⟩
        | false =>
          have HN2 : Hid (∀ j, j < 0 + 1 → Sl.d ⟨g, v0, v1, v2, v3, false, d1, d2, d3, l⟩ j = false) := Lib.hid (fun j hj => by
            by_cases e : j = 0
            · subst e; rfl
            · exact HN.out j (by omega))
          go_wp2_with fail
          go_roundw
          case rel => exact ⟨0 + 1, rfl, by omega, HN2, by first | rfl | trivial⟩
          case measure => simp [intOf]
      · rw [show ((1 : Nat) : Int) = 1 from rfl]
        cases d1 with
        | true =>
          go_wp2_with fail
          go_ret
          exact ⟨by rw [← hR.out]; unfold Sl.busy; simp, HB1.out⟩
        | false =>
          have HN2 : Hid (∀ j, j < 1 + 1 → Sl.d ⟨g, v0, v1, v2, v3, d0, false, d2, d3, l⟩ j = false) := Lib.hid (fun j hj => by
            by_cases e : j = 1
            · subst e; rfl
            · exact HN.out j (by omega))
          go_wp2_with fail
          go_roundw
          case rel => exact ⟨1 + 1, rfl, by omega, HN2, by first | rfl | trivial⟩
          case measure => simp [intOf]
      · rw [show ((2 : Nat) : Int) = 2 from rfl]
        cases d2 with
        | true =>
          go_wp2_with fail
          go_ret
          exact ⟨by rw [← hR.out]; unfold Sl.busy; simp, HB1.out⟩
        | false =>
          have HN2 : Hid (∀ j, j < 2 + 1 → Sl.d ⟨g, v0, v1, v2, v3, d0, d1, false, d3, l⟩ j = false) := Lib.hid (fun j hj => by
            by_cases e : j = 2
            · subst e; rfl
            · exact HN.out j (by omega))
          go_wp2_with fail
          go_roundw
          case rel => exact ⟨2 + 1, rfl, by omega, HN2, by first | rfl | trivial⟩
          case measure => simp [intOf]
      · rw [show ((3 : Nat) : Int) = 3 from rfl]
        cases d3 with
        | true =>
          go_wp2_with fail
          go_ret
          exact ⟨by rw [← hR.out]; unfold Sl.busy; simp, HB1.out⟩
        | false =>
          have HN2 : Hid (∀ j, j < 3 + 1 → Sl.d ⟨g, v0, v1, v2, v3, d0, d1, d2, false, l⟩ j = false) := Lib.hid (fun j hj => by
            by_cases e : j = 3
            · subst e; rfl
            · exact HN.out j (by omega))
          go_wp2_with fail
          go_roundw
          case rel => exact ⟨3 + 1, rfl, by omega, HN2, by first | rfl | trivial⟩
          case measure => simp [intOf]
    · obtain rfl : k = 4 := by omega
      rw [show ((4 : Nat) : Int) = 4 from rfl]
      have HF : Hid (R = false) := Lib.hid (by
        rw [← hR.out]
        have e0 : d0 = false := HN.out 0 (by omega)
        have e1 : d1 = false := HN.out 1 (by omega)
        have e2 : d2 = false := HN.out 2 (by omega)
        have e3 : d3 = false := HN.out 3 (by omega)
        unfold Sl.busy
        simp [e0, e1, e2, e3])
      go_wp2_with fail
      go_ret
      exact ⟨by rw [HF.out]; rfl, HB1.out⟩
def setsL : List Value → Nat → List Value → List Value
  | xs, _, [] => xs
  | xs, o, v :: vs => setsL (xs.set o v) (o + 1) vs
theorem setsL_get : ∀ (vs xs : List Value) (o j : Nat), (setsL xs o vs)[j]? = if o ≤ j ∧ j < o + vs.length ∧ j < xs.length then vs[j - o]? else xs[j]?
  | [], xs, o, j => by rw [if_neg (by simp; omega)]; rfl
  | v :: vs, xs, o, j => by
    show (setsL (xs.set o v) (o + 1) vs)[j]? = _
    rw [setsL_get vs (xs.set o v) (o + 1) j, List.length_set]
    by_cases h1 : o + 1 ≤ j ∧ j < o + 1 + vs.length ∧ j < xs.length
    · rw [if_pos h1, if_pos (by simp; omega), show j - o = (j - (o + 1)) + 1 by omega, List.getElem?_cons_succ]
    · rw [if_neg h1, List.getElem?_set]
      by_cases h2 : o = j
      · subst h2
        by_cases h3 : o < xs.length
        · rw [if_pos rfl, if_pos h3, if_pos (by simp; omega), Nat.sub_self]; rfl
        · rw [if_pos rfl, if_neg h3, if_neg (by omega), List.getElem?_eq_none (by omega)]
      · rw [if_neg h2, if_neg (by simp; omega)]
theorem own_sets {base g n cap size : Nat} {e : TypeId} : ∀ (vs : List Value) (o : Nat) (w : World) (xs : List Value), w.ownsRow base e size (.slice (some ⟨g, 0, none⟩) n cap) n xs → (w.setCells g o vs).ownsRow base e size (.slice (some ⟨g, 0, none⟩) n cap) n (setsL xs o vs)
  | [], o, w, xs, h => h
  | v :: vs, o, w, xs, h => own_sets vs (o + 1) _ _ (World.ownsRow.stored h o v).1
theorem LL_set (X : Nat → Sl) (n i : Nat) (s : Sl) : setsL (LL X n) (i * 10) (slA s).toList = LL (upd X i s) n := by
  apply List.ext_getElem?
  intro j
  rw [setsL_get, LL_length, show (slA s).toList.length = 10 from rfl]
  by_cases hj : j < n * 10
  · obtain ⟨k, m, rfl, hm⟩ : ∃ k m, j = k * 10 + m ∧ m < 10 := ⟨j / 10, j % 10, by omega, Nat.mod_lt _ (by omega)⟩
    rw [LL_at (upd X i s) n k m (by omega) hm]
    by_cases e : k = i
    · subst e
      rw [if_pos (by omega), upd_same, show k * 10 + m - k * 10 = m by omega, Array.getElem?_toList]
      unfold slC
      rw [Array.getElem?_eq_getElem (show m < (slA s).size from hm)]
      rfl
    · rw [if_neg (by omega), LL_at X n k m (by omega) hm]
      unfold upd
      rw [if_neg e]
  · rw [if_neg (by omega), List.getElem?_eq_none (by rw [LL_length]; omega), List.getElem?_eq_none (by rw [LL_length]; omega)]
theorem src_LL {w : World} {B n c : Nat} {ao : Option Addr} {X : Nat → Sl} (h : LAt w B (.slice ao n c) n X) : Src Try.prog 10 28 (.slice ao n c) n (LL X n) w := by
  have h0 := h
  obtain ⟨hl, h | ⟨g, cap, cur, e, _⟩⟩ := h0
  · obtain ⟨e, rfl⟩ := h
    injection e with e1 _ e3
    subst e1 e3
    have : LL X 0 = [] := rfl
    rw [this]
    exact Src.ofNil _ Try.underlying28 _
  · injection e with e1 _ e3
    subst e1 e3
    exact Src.ofSlice _ Try.underlying28 ⟨g, 0, none⟩ n c (LL X n) hl (World.ownsRow.cells h rfl) (LL_one X n)
set_option maxRecDepth 100000 in
set_option maxHeartbeats 8000000 in
theorem rset_any (B n i : Nat) (v : Value) (X : Nat → Sl) (s : Sl) (w : World) (hL : LAt w B v n X) (h8 : n ≤ 8) (hi : i < n) : Calls Try.prog 30 #[v, .int .i64 (i : Int), .agg #[.int .i64 s.g, .bool s.v0, .bool s.v1, .bool s.v2, .bool s.v3, .bool s.d0, .bool s.d1, .bool s.d2, .bool s.d3, .int .i64 s.l]] w fun e w' => ∃ v', e = .returned v' ∧ LAt w' w.heap.size v' n (upd X i s) ∧ Below w.heap.size w w' := by
  obtain ⟨ao, c, rfl⟩ := own_form hL
  obtain ⟨i0, hi0, hz0, hz1, hz2⟩ := info_parts22 info_slD
  obtain ⟨w1, hw1⟩ : ∃ w1, Hid (w.alloc (.cells #[.int .i64 s.g, .bool s.v0, .bool s.v1, .bool s.v2, .bool s.v3, .bool s.d0, .bool s.d1, .bool s.d2, .bool s.d3, .int .i64 s.l] 44) = w1) := ⟨_, Lib.hid rfl⟩
  obtain ⟨a, ha⟩ : ∃ a, Hid (w.heap.size = a) := ⟨_, Lib.hid rfl⟩
  have HB1 : Hid (Below w.heap.size w w1) := Lib.hid (by rw [← hw1.out]; exact (Below.refl _ _).alloc (Nat.le_refl _) _)
  have HR1 : Hid (w1.heap[a]? = some (.cells #[.int .i64 s.g, .bool s.v0, .bool s.v1, .bool s.v2, .bool s.v3, .bool s.d0, .bool s.d1, .bool s.d2, .bool s.d3, .int .i64 s.l] 44 (0, 0))) := Lib.hid (by rw [← hw1.out, ← ha.out]; exact heap_alloc_new _ _)
  have hal : a < w1.heap.size := (Array.getElem?_eq_some_iff.1 HR1.out).1
  have hwa : w.heap.size ≤ a := Nat.le_of_eq ha.out
  have hbn : (w1.alloc (.cells #[] 44)).ownsRow w1.heap.size 44 10 (.slice (some ⟨w1.heap.size, 0, none⟩) 0 0) 0 [] := World.ownsRow_made _ _ _ (Nat.le_refl _) (Nat.zero_le _) rfl
  have hba : Below w1.heap.size w1 (w1.alloc (.cells #[] 44)) := (Below.refl _ _).alloc (Nat.le_refl _) _
  have HNN := Lib.hid hbn
  have HBA := Lib.hid hba
  have HL1 := Lib.hid ((hL.below HB1.out).below hba)
  have hs1 := HB1.out.size
  have hsz2 := hba.size
  clear hL hbn hba
  have hin : (i : Int) < (n : Int) := by omega
  go_enter Try.func30, Try.ntmps30
  go_upto_region 1 with fail
  rw [hw1.out, ha.out]
  clear hw1 ha
  go_wp2_with (at_builtin; refine wpList_append_src _ rfl _ _ 28 28 rfl w1.heap.size 44 i0 (.agg #[.int .i64 0, .bool false, .bool false, .bool false, .bool false, .bool false, .bool false, .bool false, .bool false, .int .i64 0]) Try.underlying28 hi0 hz0 (by rw [hz1]; rfl) (.slice (some ⟨w1.heap.size, 0, none⟩) 0 0) 0 [] rfl (by rw [hz1]; exact HNN.out) (.slice ao n c) n (LL X n) rfl (by rw [hz1]; exact src_LL HL1.out) (by unfold maxLen; omega) (by rw [hz2]; omega) hsz2 ?_)
  intro v2 w2 O2 G2
  have O2' : w2.ownsRow w1.heap.size 44 10 v2 n (LL X n) := by first | exact O2 | (rw [hz1, List.nil_append, Nat.zero_add] at O2; exact O2)
  have HB2 := Lib.hid (HBA.out.grown G2 hsz2 (fun j e => (HNN.out.lt j e).1))
  have HL2 : Hid (LAt w2 w1.heap.size v2 n X) := Lib.hid O2'
  obtain ⟨a2, c2, rfl⟩ := own_form O2'
  clear O2 O2' G2 HNN HBA HL1
  obtain ⟨b, rfl, hb, hwb, hcs⟩ := HL2.out.at_ (by omega)
  have hr2 := (HB2.out.block a hal).trans HR1.out
  have HTH : Hid (w2.there b (i * 10) 10) := Lib.hid (fun j hj => ⟨by rw [hcs i hi j hj]; rfl, World.ownsRow.frozenAt HL2.out _⟩)
  have q0 := row_cell22 hr2 0 _ rfl
  have q1 := row_cell22 hr2 1 _ rfl
  have q2 := row_cell22 hr2 2 _ rfl
  have q3 := row_cell22 hr2 3 _ rfl
  have q4 := row_cell22 hr2 4 _ rfl
  have q5 := row_cell22 hr2 5 _ rfl
  have q6 := row_cell22 hr2 6 _ rfl
  have q7 := row_cell22 hr2 7 _ rfl
  have q8 := row_cell22 hr2 8 _ rfl
  have q9 := row_cell22 hr2 9 _ rfl
  have HL3 : Hid (LAt (w2.setCells b (i * 10) #[.int .i64 s.g, .bool s.v0, .bool s.v1, .bool s.v2, .bool s.v3, .bool s.d0, .bool s.d1, .bool s.d2, .bool s.d3, .int .i64 s.l].toList) w1.heap.size (.slice (some ⟨b, 0, none⟩) n c2) n (upd X i s)) := Lib.hid (by
    unfold LAt
    rw [← LL_set]
    exact own_sets _ _ _ _ HL2.out)
  have HB3 : Hid (Below w.heap.size w (w2.setCells b (i * 10) #[.int .i64 s.g, .bool s.v0, .bool s.v1, .bool s.v2, .bool s.v3, .bool s.d0, .bool s.d1, .bool s.d2, .bool s.d3, .int .i64 s.l].toList)) := Lib.hid (below_sets (Nat.le_trans hs1 hwb) _ _ _ (HB1.out.trans (HB2.out.mono hs1)))
  clear hcs
  go_wp2_with (refine wpList_store_mid rfl 44 _ _ rfl b (i * 10) #[.int .i64 s.g, .bool s.v0, .bool s.v1, .bool s.v2, .bool s.v3, .bool s.d0, .bool s.d1, .bool s.d2, .bool s.d3, .int .i64 s.l] rfl rfl HTH.out (by kernel_rfl) (by simp [Value.oneCell']) ?_)
  go_ret
  exact ⟨_, rfl, own_base22 HL3.out hs1, HB3.out⟩
end Go.Proofs.Ythhgodfgigcacaa
