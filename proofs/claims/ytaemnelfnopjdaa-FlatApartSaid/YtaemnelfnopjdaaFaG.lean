/- Package flat: keep. -/
import Derived.Test.YtaemnelfnopjdaaFaD
import Derived.Test.YtaemnelfnopjdaaFaE
import Derived.Test.YtaemnelfnopjdaaFaF
namespace Go.Proofs.Ytaemnelfnopjdaa
open Go.RowKit Go.Deep Go.Maps
set_option linter.unusedVariables false
set_option linter.unusedSimpArgs false
theorem Kq.of_grownO {A : Nat} {r : Option Nat} {w w' : World} (h : w.grownBy w' r) (hA : A ≤ w.heap.size) (hr : ∀ k, r = some k → A ≤ k) : Kq A r.toList w w' :=
  ⟨⟨h.os, h.tape, h.output, h.size, fun k hk => h.block k (Nat.lt_of_lt_of_le hk hA) (fun e => by have := hr k e.symm; omega)⟩, fun k hk hn => h.block k hk (fun e => hn (by simp [← e]))⟩
theorem app_block {w w' : World} {o : Obj} {v : Value} {g : Nat} {x : Obj} (hG : (w.alloc o).grownBy w' v.ownBlock) (hg : w.heap[g]? = some x) (hne : v.ownBlock ≠ some g) : w'.heap[g]? = some x := by
  have hlt := (Array.getElem?_eq_some_iff.1 hg).1
  exact (hG.block g (by simp; omega) (fun e => hne e.symm)).trans ((Below.heap_alloc w o g hlt).trans hg)
theorem fl_set1 {w : World} {g : Nat} {a b c d f v : Value} {T : TypeId} (h : w.heap[g]? = some (.cells #[a, b, c, d, f] T (0, 0))) : (w.setCell ⟨g, 1, none⟩ v).heap[g]? = some (.cells #[a, v, c, d, f] T (0, 0)) := heap_setCell_same w g 1 _ T v h
theorem fl_set3 {w : World} {g : Nat} {a b c d f v : Value} {T : TypeId} (h : w.heap[g]? = some (.cells #[a, b, c, d, f] T (0, 0))) : (w.setCell ⟨g, 3, none⟩ v).heap[g]? = some (.cells #[a, b, c, v, f] T (0, 0)) := heap_setCell_same w g 3 _ T v h
theorem fl_set4 {w : World} {g : Nat} {a b c d f v : Value} {T : TypeId} (h : w.heap[g]? = some (.cells #[a, b, c, d, f] T (0, 0))) : (w.setCell ⟨g, 4, none⟩ v).heap[g]? = some (.cells #[a, b, c, d, v] T (0, 0)) := heap_setCell_same w g 4 _ T v h
theorem own_setF {w : World} {base n size g j : Nat} {e T : TypeId} {v u : Value} {xs : List Value} {cs : Array Value} (h : w.ownsRow base e size v n xs) (hg : w.heap[g]? = some (.cells cs T (0, 0))) (he : e ≠ T) : (w.setCell ⟨g, j, none⟩ u).ownsRow base e size v n xs :=
  own_at_block h (fun k hk => Below.heap_setCell w ⟨g, j, none⟩ u k (fun e1 => own_nostruct h hg he (by rw [hk, e1])))
section
variable {w : World} {B g bm : Nat} {M : Fl} {vt vf vc : Value} {cm : List Ch} {D : DataW Unit}
theorem FlAt.gbm (h : FlAt w B g M vt vf vc cm bm D) : g ≠ bm := map_block h.hm h.hg
theorem FlAt.tf (h : FlAt w B g M vt vf vc cm bm D) {k : Nat} (e : vt.ownBlock = some k) : vf.ownBlock ≠ some k ∧ vc.ownBlock ≠ some k ∧ k ≠ g ∧ k ≠ bm := by
  have ht := tyAt_row h.ht e
  refine ⟨fun e2 => ?_, fun e2 => ?_, fun e2 => ?_, fun e2 => ?_⟩
  · rw [tyAt_row h.hf e2] at ht; revert ht; decide
  · rw [tyAt_row h.hc e2] at ht; revert ht; decide
  · rw [e2, tyAt_cells h.hg] at ht; revert ht; decide
  · rw [e2, tyAt_map h.hm] at ht; cases ht
theorem FlAt.ff (h : FlAt w B g M vt vf vc cm bm D) {k : Nat} (e : vf.ownBlock = some k) : vt.ownBlock ≠ some k ∧ vc.ownBlock ≠ some k ∧ k ≠ g ∧ k ≠ bm := by
  have ht := tyAt_row h.hf e
  refine ⟨fun e2 => ?_, fun e2 => ?_, fun e2 => ?_, fun e2 => ?_⟩
  · rw [tyAt_row h.ht e2] at ht; revert ht; decide
  · rw [tyAt_row h.hc e2] at ht; revert ht; decide
  · rw [e2, tyAt_cells h.hg] at ht; revert ht; decide
  · rw [e2, tyAt_map h.hm] at ht; cases ht
theorem FlAt.fc (h : FlAt w B g M vt vf vc cm bm D) {k : Nat} (e : vc.ownBlock = some k) : vt.ownBlock ≠ some k ∧ vf.ownBlock ≠ some k ∧ k ≠ g ∧ k ≠ bm := by
  have ht := tyAt_row h.hc e
  refine ⟨fun e2 => ?_, fun e2 => ?_, fun e2 => ?_, fun e2 => ?_⟩
  · rw [tyAt_row h.ht e2] at ht; revert ht; decide
  · rw [tyAt_row h.hf e2] at ht; revert ht; decide
  · rw [e2, tyAt_cells h.hg] at ht; revert ht; decide
  · rw [e2, tyAt_map h.hm] at ht; cases ht
set_option maxRecDepth 100000 in
set_option maxHeartbeats 4000000 in
theorem keep_old (s : ByteArray) (h : FlAt w B g M vt vf vc cm bm D) (hs : s.size ≤ 1000000) (hin : s.data.toList ∈ M.T) : Calls Try.prog 34 #[.pointer (some ⟨g, 0, none⟩), .string s] w fun e w' => e = .returned (.int .i64 (M.T.idxOf s.data.toList : Int)) ∧ w = w' := by
  have HKEY := Lib.hid (show keyOf Try.prog 9 (.string s) = some (kS s.data.toList) from Go.WideMaps.keyOf_string_mk Try.underlying9 (by unfold maxLen; omega))
  have HHAS : Hid (has D (kS s.data.toList) = true) := Lib.hid (by rw [(h.ix s.data.toList).1]; exact decide_eq_true hin)
  have HIX := Lib.hid ((h.ix s.data.toList).2 hin)
  have c2 := cell_of_row w g 2 _ _ _ h.hg
  have hm1 := h.hm
  generalize M.T.idxOf s.data.toList = ix at *
  generalize M.T.length = n at *
  clear h hin
  go_enter Try.func34, Try.ntmps34
  go_upto_region 2 with (at_lookup; refine wpList_lookup_own_ok_int _ rfl _ _ 54 rfl 9 3 .i64 lawS Try.underlying54 Try.underlying3 (zeroI _) bm n D rfl hm1 _ (kS s.data.toList) rfl HKEY.out ?_; intro c hat hwc; rw [HIX.out] at hat; obtain rfl : (ix : Int) = c := (by injection hat with hat; injection hat); rw [HHAS.out]; clear hat hwc)
  go_wp2_with fail
  go_ret
  exact ⟨rfl, rfl⟩
set_option maxRecDepth 100000 in
set_option maxHeartbeats 4000000 in
theorem keep_new (s : ByteArray) (h : FlAt w B g M vt vf vc cm bm D) (hs : s.size ≤ 1000000) (hin : s.data.toList ∉ M.T) (hT : M.T.length ≤ 100000) : Calls Try.prog 34 #[.pointer (some ⟨g, 0, none⟩), .string s] w fun e w' => ∃ vt' D', e = .returned (.int .i64 (M.T.length : Int)) ∧ FlAt w' B g { M with T := M.T ++ [s.data.toList] } vt' vf vc cm bm D' ∧ Kq B (OwnL g vt vf vc bm) w w' ∧ (∀ k, vt'.ownBlock = some k → vt.ownBlock = some k ∨ w.heap.size ≤ k) := by
  obtain ⟨is, his, hz0, hz1, hz2⟩ := info_partsF info_str'
  have HKEY := Lib.hid (show keyOf Try.prog 9 (.string s) = some (kS s.data.toList) from Go.WideMaps.keyOf_string_mk Try.underlying9 (by unfold maxLen; omega))
  have HHAS : Hid (has D (kS s.data.toList) = false) := Lib.hid (by rw [(h.ix s.data.toList).1]; exact decide_eq_false hin)
  have HIXP := Lib.hid ((h.ix).put h.hm.isMap s.data.toList hin)
  have HWF := Lib.hid (nat_wf M.T.length (by omega))
  have c2 := cell_of_row w g 2 _ _ _ h.hg
  have c1 := cell_of_row w g 1 _ _ _ h.hg
  have hm1 := h.hm
  have H := Lib.hid h
  have hbw := h.bw
  have hbg := h.bg
  have hrow := h.ht
  have hsrc := src_str (w := w) s
  have o1 : M.T.length + 1 ≤ maxLen := by unfold maxLen; omega
  have o2 : (M.T.length + 1) * 16 ≤ 140737488355328 := by omega
  have o3 : B ≤ (w.alloc (.cells #[.string s] 9)).heap.size := by simp; omega
  obtain ⟨ta, tc, evt⟩ := own_slF h.ht
  have HN := Lib.hid (show M.T.length < maxLen by unfold maxLen; omega)
  have HSA : Hid (strF (M.T ++ [s.data.toList]) = strF M.T ++ [.string s]) := Lib.hid (by rw [strF_app]; rfl)
  have HE : Hid (strF M.T = M.T.map fun x => Value.string ⟨x.toArray⟩) := Lib.hid rfl
  rw [← HE.out] at hrow
  obtain ⟨n, hn⟩ : ∃ n, Hid (M.T.length = n) := ⟨_, Lib.hid rfl⟩
  rw [hn.out] at HN hm1 hrow o1 o2 evt HIXP HWF hT ⊢
  subst evt
  clear h hin
  go_enter Try.func34, Try.ntmps34
  go_upto_region 2 with (at_lookup; refine wpList_lookup_own_ok_int _ rfl _ _ 54 rfl 9 3 .i64 lawS Try.underlying54 Try.underlying3 (zeroI _) bm n D rfl hm1 _ (kS s.data.toList) rfl HKEY.out ?_; intro c hat hwc; rw [HHAS.out]; clear hat hwc)
  go_wp2_with (first | (at_builtin; refine wpList_append_src2 _ rfl _ _ 49 49 rfl B 9 is (.string ⟨#[]⟩) 1 16 Try.underlying49 his hz0 hz1 hz2 rfl (by decide) (.slice ta n tc) n (strF M.T) rfl (hrow.alloc _) _ 1 [.string s] rfl hsrc o1 o2 o3 ?_; intro v5 w5 O5 G5 L5; obtain ⟨a5, c5, rfl⟩ := own_slF O5; have hg5 := app_block G5 H.out.hg (own_nostruct hrow H.out.hg (by decide)); have c05 := cell_of_row w5 g 1 _ _ _ hg5; have f05 := frozen_of_row w5 g 1 _ _ hg5; have c25 := cell_of_row w5 g 2 _ _ _ hg5) | (at_mapUpdate; have hm5 := map_at_block hm1 ((G5.block bm (by have := World.ownsMap.lt hm1; simp; omega) (fun e => own_nomap hrow hm1 e.symm)).trans (Below.heap_alloc w _ bm (World.ownsMap.lt hm1))); have KA : Kq B (Value.slice ta n tc).ownBlock.toList w (w.alloc (.cells #[.string s] 9)) := Kq.of_below ((Below.refl _ _).alloc (Nat.le_refl _) _) hbw; have K5 : Kq B (Value.slice ta n tc).ownBlock.toList w w5 := KA.trans (Kq.of_grownO G5 o3 (fun k e => (hrow.lt k e).1)); have hg6 := fl_set1 (v := .slice a5 (n + 1) c5) hg5; have O6 := own_setF (j := 1) (u := .slice a5 (n + 1) c5) O5 hg5 (by decide); have hm6 := map_at_block hm5 (Below.heap_setCell w5 ⟨g, 1, none⟩ (.slice a5 (n + 1) c5) bm (fun e => map_block hm5 hg5 e.symm)); have s6 : (w5.setCell ⟨g, 1, none⟩ (.slice a5 (n + 1) c5)).heap.size = w5.heap.size := (by simp [World.setCell]); refine wpList_mapUpdate_own _ rfl _ _ _ 54 rfl 9 3 lawS Try.underlying54 _ bm n D rfl hm6 HN.out _ _ (kS s.data.toList) rfl rfl HKEY.out (.lit (.int .i64 (n : Int))) [] (plainElem_int Try.underlying3 HWF.out) ?_; intro w7 M7 G7))
  have K6 : Kq B (g :: bm :: (Value.slice ta n tc).ownBlock.toList) w (w5.setCell ⟨g, 1, none⟩ (.slice a5 (n + 1) c5)) := (K5.wide (M := g :: bm :: (Value.slice ta n tc).ownBlock.toList) (fun k hk => by simp at hk ⊢; exact Or.inr (Or.inr hk))).setCell _ _ hbg (by simp)
  have hs6 : B ≤ (w5.setCell ⟨g, 1, none⟩ (.slice a5 (n + 1) c5)).heap.size := by rw [s6]; exact Nat.le_trans hbw K5.below.size
  have K7 : Kq B (g :: bm :: (Value.slice ta n tc).ownBlock.toList) w w7 := K6.trans ((Kq.of_grown G7 hs6 H.out.bb).wide (fun k hk => by simp at hk ⊢; exact Or.inr (Or.inl hk)))
  have hg7 := (G7.block g (by rw [s6]; exact (Array.getElem?_eq_some_iff.1 hg5).1) (fun e => map_block hm6 hg6 (Option.some.inj e))).trans hg6
  have O7 := own_grown O6 G7 (Or.inr (own_nomap O6 hm6))
  have L7 : ∀ k, (Value.slice a5 (n + 1) c5).ownBlock = some k → (Value.slice ta n tc).ownBlock = some k ∨ w.heap.size ≤ k := fun k e => by
    rcases L5 with h | h
    · exact Or.inl (by rw [← h]; exact e)
    · right
      rw [h] at e
      cases e
      simp
  have hout : ∀ k, k ∈ g :: bm :: (Value.slice ta n tc).ownBlock.toList ↔ k = g ∨ k = bm ∨ (Value.slice ta n tc).ownBlock = some k := fun k => by simp
  have F7 : FlAt w7 B g { M with T := M.T ++ [s.data.toList] } (.slice a5 (n + 1) c5) vf vc cm bm (D.put (kS s.data.toList) (.lit (.int .i64 (n : Int)))) :=
    { hg := hg7
      bg := hbg
      ht := by
        have e : (M.T ++ [s.data.toList]).length = n + 1 := by rw [List.length_append, hn.out]; rfl
        show w7.ownsRow B 9 1 _ (M.T ++ [s.data.toList]).length _
        rw [e, ← HSA.out] at *
        exact O7
      hm := by
        have e : (M.T ++ [s.data.toList]).length = n + 1 := by rw [List.length_append, hn.out]; rfl
        show w7.ownsMap Try.prog 9 _ bm (M.T ++ [s.data.toList]).length _
        rw [e]
        exact M7
      bb := H.out.bb
      ix := HIXP.out
      hf := own_at_block H.out.hf (fun k e => K7.other k (H.out.hf.lt k e).2 (fun hm => by
        rcases (hout k).1 hm with h | h | h
        · exact (H.out.ff e).2.2.1 h
        · exact (H.out.ff e).2.2.2 h
        · exact (H.out.ff e).1 h))
      hc := own_at_block H.out.hc (fun k e => K7.other k (H.out.hc.lt k e).2 (fun hm => by
        rcases (hout k).1 hm with h | h | h
        · exact (H.out.fc e).2.2.1 h
        · exact (H.out.fc e).2.2.2 h
        · exact (H.out.fc e).1 h))
      ch := fun c hc => (H.out.ch c hc).same K7.below.size (fun a ea => K7.other a.block ((H.out.ch c hc).2 a ea).1 (fun hm => by
        refine H.out.noint ((H.out.ch c hc).2 a ea).2 (mem_own.2 ?_)
        rcases (hout a.block).1 hm with h | h | h
        · exact Or.inl h
        · exact Or.inr (Or.inl h)
        · exact Or.inr (Or.inr (Or.inl h))))
      ce := H.out.ce }
  have HF7 := Lib.hid F7
  have HK7 := Lib.hid (K7.wide (M := OwnL g (.slice ta n tc) vf vc bm) (fun k hk => mem_own.2 (by
    rcases (hout k).1 hk with h | h | h
    · exact Or.inl h
    · exact Or.inr (Or.inl h)
    · exact Or.inr (Or.inr (Or.inl h)))))
  have HL7 := Lib.hid L7
  clear c05 f05 c25 hg5 hg6 O5 O6 hm5 hm6 G5 G7 KA K5 K6 hs6 s6 L5 hrow hsrc c1 c2 hm1 F7 K7 L7 hout O7 hg7 M7
  go_wp2_with fail
  go_ret
  exact ⟨_, _, rfl, HF7.out, HK7.out, HL7.out⟩
end
end Go.Proofs.Ytaemnelfnopjdaa
