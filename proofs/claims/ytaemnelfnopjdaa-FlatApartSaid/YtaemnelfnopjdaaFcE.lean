/- The reference of flat: Saw. -/
import Derived.Test.YtaemnelfnopjdaaFcD
namespace Go.Proofs.Ytaemnelfnopjdaa
open Go.RowKit Go.Deep Go.Maps
set_option linter.unusedVariables false
set_option linter.unusedSimpArgs false
theorem RfW.nog {w : World} {B g n gc cap : Nat} {cs : List RC} (h : RfW w B g n cs gc cap) {c : RC} (hc : c ∈ cs) : c.b ≠ g := fun e => by
  obtain ⟨ht, _, hn, _⟩ := h.row c hc
  have h1 := ht.2 0 (List.length_pos_iff.2 hn)
  have h2 := cell_of_row w g 0 _ _ _ h.hg
  rw [e] at h1
  rw [h1] at h2
  cases h2
def segB (qa qb : Nat) (c : RC) : ByteArray := (⟨(lastT c).toArray⟩ : ByteArray).extract qa qb
def seenC (qa qb : Nat) (s : ByteArray) (cs : List RC) : List RC := cs.filter fun c => decide (segB qa qb c = s)
theorem seenC_succ (qa qb : Nat) (s : ByteArray) (cs : List RC) (i : Nat) (h : i < cs.length) : seenC qa qb s (cs.take (i + 1)) = seenC qa qb s (cs.take i) ++ (if segB qa qb cs[i] = s then [cs[i]] else []) := by
  unfold seenC
  rw [← List.take_append_getElem h, List.filter_append]
  congr 1
  by_cases e : segB qa qb cs[i] = s
  · rw [if_pos e, List.filter_cons_of_pos (by simpa using e)]; rfl
  · rw [if_neg e, List.filter_cons_of_neg (by simpa using e)]; rfl
theorem ba_toR (s t : ByteArray) (h : s.toList = t.toList) : s = t := by
  have h2 : s.data.toList = t.data.toList := by rw [Lib.toList_data, Lib.toList_data] at h; exact h
  cases s; cases t
  simp only [ByteArray.mk.injEq]
  exact Array.toList_inj.1 h2
set_option maxRecDepth 100000 in
set_option maxHeartbeats 8000000 in
theorem rsaw_any {w : World} {B g n gc cap : Nat} {cs : List RC} (A : Nat) (s : ByteArray) (h : RfW w B g n cs gc cap) (hB : B ≤ w.heap.size) (hl : cs.length ≤ 1000000) (hL : ∀ c ∈ cs, c.L.length ≤ 1000000) (hsz : ∀ c ∈ cs, 48 * A + s.size ≤ (lastT c).length) (hA : A ≤ 64) (hs : s.size ≤ 1000000) (hold : ∀ c ∈ cs, c.b < w.heap.size) : Calls Try.prog 27 #[.pointer (some ⟨g, 0, none⟩), .int .i64 (A : Int), .string s] w fun e w' => e = .returned (.bool (decide (seenC (48 * A) (48 * A + s.size) s cs ≠ []))) ∧ ∃ gc' cap', RfW w' B g n (if seenC (48 * A) (48 * A + s.size) s cs = [] then cs else seenC (48 * A) (48 * A + s.size) s cs) gc' cap' ∧ Kq B [g] w w' ∧ (gc' = gc ∨ w.heap.size ≤ gc') := by
  obtain ⟨ic, hic, cz0, cz1, cz2⟩ := info_partsF info_rc
  have H := Lib.hid h
  have HL := Lib.hid hL
  have hcap := h.cap
  obtain ⟨qa, hqa⟩ : ∃ qa, 48 * A = qa := ⟨_, rfl⟩
  obtain ⟨qb, hqb⟩ : ∃ qb, qa + s.size = qb := ⟨_, rfl⟩
  have ea : (48 : Int) * (A : Int) = (qa : Int) := by omega
  have eb : (qa : Int) + (s.size : Int) = (qb : Int) := by omega
  rw [hqa] at hsz ⊢
  rw [hqb] at hsz ⊢
  have HSZ := Lib.hid hsz
  have HOLD := Lib.hid hold
  obtain ⟨m, hm⟩ : ∃ m, Hid (cs.length = m) := ⟨_, Lib.hid rfl⟩
  obtain ⟨B1, hB1⟩ : ∃ B1, Hid (w.heap.size = B1) := ⟨_, Lib.hid rfl⟩
  have c1 := cell_of_row w g 1 _ _ _ h.hg
  rw [hm.out] at hl hcap c1
  have hglt := h.lt
  have hqle : qa ≤ qb := by omega
  have hqb1 : qb ≤ 1010000 := by omega
  have HSEEN := Lib.hid (seenC_succ qa qb s cs)
  have HALL : Hid (seenC qa qb s (cs.take m) = seenC qa qb s cs) := Lib.hid (by rw [List.take_of_length_le (by rw [hm.out]; exact Nat.le_refl _)])
  have HSL : Hid (∀ i, (seenC qa qb s (cs.take i)).length ≤ i) := Lib.hid (fun i => Nat.le_trans (List.length_filter_le _ _) (by rw [List.length_take]; exact Nat.min_le_left _ _))
  have HSM : Hid (∀ c ∈ seenC qa qb s cs, c ∈ cs) := Lib.hid (fun c hc => (List.mem_filter.1 hc).1)
  have h00 : seenC qa qb s (cs.take 0) = [] := rfl
  clear h hL hsz hold hqa hqb
  go_enter Try.func27, Try.ntmps27
  go_wp2_with fail
  go_loopw [7, 8] (fun s2 s3 wi => ∃ (i k : Nat) (vo : Option Addr) (co : Nat), s2 = .slice vo k co ∧ s3 = .int .i64 (i : Int) ∧ i ≤ m ∧ k ≤ i ∧ Hid ((seenC qa qb s (cs.take i)).length = k) ∧ Hid (OutW wi B B1 (.slice vo k co) (seenC qa qb s (cs.take i))) ∧ Hid (Below w.heap.size w wi)) (fun _ s3 _ => m - (intOf s3).toNat)
  case atStart => exact ⟨0, 0, none, 0, rfl, rfl, by omega, by omega, Lib.hid rfl, Lib.hid (OutW.nil _ _ _), Lib.hid (Below.refl _ _)⟩
  case round =>
    obtain ⟨i, k, vo, co, rfl, rfl, hi, hki, hnl, HO, HW⟩ := hrel
    clear h00
    have c1 := (HW.out.cell (p := ⟨g, 1, none⟩) hglt).trans c1
    by_cases him : i < m
    · as_aux_lemma =>
      have hil : i < cs.length := by rw [hm.out]; exact him
      have hmem := List.getElem_mem hil
      have hc := (HW.out.cell (p := ⟨gc, i, none⟩) H.out.lc).trans (H.out.cell i hil)
      have HROW := Lib.hid (H.out.row _ hmem)
      obtain ⟨ht, hcp, hn0, hbb⟩ := H.out.row _ hmem
      have hLl := HL.out _ hmem
      have hlz := HSZ.out _ hmem
      have hob := HOLD.out _ hmem
      have htk := HSEEN.out i hil
      unfold rcV at hc
      obtain ⟨c, hcc⟩ : ∃ c, cs[i] = c := ⟨_, rfl⟩
      rw [hcc] at hc ht hcp hn0 hbb hLl htk hlz hob HROW
      obtain ⟨L', x, hLx⟩ : ∃ L' x, c.L = L' ++ [x] := ⟨c.L.dropLast, c.L.getLast hn0, (List.dropLast_concat_getLast hn0).symm⟩
      have hlast : lastT c = x := by unfold lastT; rw [hLx]; simp
      have hsg : segB qa qb c = (⟨x.toArray⟩ : ByteArray).extract qa qb := by unfold segB; rw [hlast]
      rw [hlast] at hlz
      have hvc : rcV c = .slice (some ⟨c.b, 0, none⟩) (L'.length + 1) c.cap := by unfold rcV; rw [hLx]; simp
      rw [hLx] at ht hcp hLl hc
      have hlen : (L' ++ [x]).length = L'.length + 1 := by simp
      rw [hlen] at hcp hLl hc
      have CLa := Lib.hid (rlast_any c.cap (ht.below HW.out) (by omega) hcp)
      obtain ⟨bb, hbbx⟩ : ∃ bb, c.b = bb := ⟨_, rfl⟩
      obtain ⟨cc, hccx⟩ : ∃ cc, c.cap = cc := ⟨_, rfl⟩
      rw [hbbx, hccx] at CLa hc hvc
      rw [hbbx] at hob
      generalize L'.length = ll at *
      have hji : (i : Int) < (m : Int) := by omega
      have HT := Lib.hid htk
      have HVC := Lib.hid hvc
      have HBB := Lib.hid hbbx
      obtain ⟨S, hS⟩ : ∃ S : ByteArray, (⟨x.toArray⟩ : ByteArray) = S := ⟨_, rfl⟩
      have hSz : S.size = x.length := by rw [← hS, bytes_size]
      rw [hS] at CLa hsg
      have HSG := Lib.hid hsg
      have l1 : (qa : Int) ≤ (qb : Int) := by omega
      have l2 : (qb : Int) ≤ (S.size : Int) := by omega
      have l0 : (0 : Int) ≤ (qa : Int) := by omega
      have l3 : (0 : Int) ≤ (qb : Int) := by omega
      have hbc : bb < w.heap.size := hob
      have hgcl : gc < w.heap.size := H.out.lc
      clear ht hcp hLl hlen hLx hn0 hbb hmem hlast htk hcc hvc hbbx hsg hS hSz hlz
      go_wp2_with fail
      refine CLa.out.mono ?_
      rintro e w1 ⟨rfl, b1⟩
      have HO1 := Lib.hid (HO.out.below b1)
      have HW1 := Lib.hid (HW.out.trans (b1.mono HW.out.size))
      have c1 := (b1.cell (p := ⟨g, 1, none⟩) (Nat.lt_of_lt_of_le hglt HW.out.size)).trans c1
      have hc := (b1.cell (p := ⟨gc, i, none⟩) (Nat.lt_of_lt_of_le hgcl HW.out.size)).trans hc
      clear CLa b1
      obtain ⟨Y, hY⟩ : ∃ Y, S.extract qa qb = Y := ⟨_, rfl⟩
      rw [hY] at HSG
      by_cases hYs : Y = s
      · as_aux_lemma =>
        have ht2 : seenC qa qb s (cs.take (i + 1)) = seenC qa qb s (cs.take i) ++ [c] := by rw [HT.out, HSG.out, if_pos hYs]
        have HT2 := Lib.hid ht2
        obtain ⟨w3, hw3⟩ : ∃ w3, w1.alloc (.cells #[.slice (some ⟨bb, 0, none⟩) (ll + 1) cc] 62) = w3 := ⟨_, rfl⟩
        have b3 : Below w1.heap.size w1 w3 := by rw [← hw3]; exact (Below.refl _ _).alloc (Nat.le_refl _) _
        have hsrc := src_rc (w := w1) (.slice (some ⟨bb, 0, none⟩) (ll + 1) cc) rfl
        rw [hw3] at hsrc
        have HO3 := Lib.hid (HO1.out.below b3)
        have HW3 := Lib.hid (HW1.out.trans (b3.mono HW1.out.size))
        have hrow := HO3.out.row
        rw [hnl.out] at hrow
        have o1 : k + 1 ≤ maxLen := by unfold maxLen; omega
        have o2 : (k + 1) * 24 ≤ 140737488355328 := by omega
        have o3 : B1 ≤ w3.heap.size := by rw [← hB1.out]; exact HW3.out.size
        have HE3 := Lib.hid hw3
        have hNE : (Value.slice vo k co).ownBlock ≠ some c.b := fun e => by
          have h5 := (HO1.out.row.lt _ e).1
          rw [HBB.out, ← hB1.out] at h5
          omega
        have HNE := Lib.hid hNE
        have HTX := Lib.hid (show TxR w3 c.b c.L ∧ c.L.length ≤ c.cap ∧ c.L ≠ [] ∧ B ≤ c.b from ⟨(HROW.out.1.below HW3.out), HROW.out.2⟩)
        subst hYs
        clear hw3 b3 HO1 HW1 ht2 hNE
        go_wp2_with (at_builtin; (try rw [HE3.out]); refine wpList_append_src2 _ rfl _ _ 34 34 rfl B1 62 ic (.agg #[.slice none 0 0]) 1 24 Try.underlying34 hic cz0 cz1 cz2 rfl (by decide) (.slice vo k co) k ((seenC qa qb _ (cs.take i)).map rcV) rfl hrow _ 1 [.slice (some ⟨bb, 0, none⟩) (ll + 1) cc] rfl hsrc o1 o2 o3 ?_; intro v5 w5 O5 G5 L5; obtain ⟨a5, c5, rfl⟩ := own_slF O5)
        obtain ⟨A5, B5⟩ := OutW.app (c := c) HO3.out o3 HTX.out HNE.out (by rw [hnl.out, HVC.out]; exact O5) G5 L5
        rw [← HT2.out] at A5
        have HO5 := Lib.hid A5
        have HW5 := Lib.hid (HW3.out.trans (by rw [hB1.out]; exact B5))
        clear O5 G5 L5 A5 B5 hrow hsrc o1 o2 o3
        go_roundw
        case rel => exact ⟨i + 1, k + 1, a5, c5, rfl, by go_num, by omega, by omega, Lib.hid (by rw [HT2.out, List.length_append, hnl.out]; rfl), HO5, HW5⟩
        case measure => simp [intOf]; omega
      · as_aux_lemma =>
        have ht2 : seenC qa qb s (cs.take (i + 1)) = seenC qa qb s (cs.take i) := by rw [HT.out, HSG.out, if_neg hYs, List.append_nil]
        have HT2 := Lib.hid ht2
        have hne : (Y.toList == s.toList) = false := by simp; exact fun e => hYs (ba_toR _ _ e)
        rw [← HT2.out] at hnl HO1
        clear ht2
        go_wp2_with fail
        go_roundw
        case rel => exact ⟨i + 1, k, vo, co, rfl, by go_num, by omega, by omega, hnl, HO1, HW1⟩
        case measure => simp [intOf]; omega
    · as_aux_lemma =>
      obtain rfl : i = m := by omega
      have hlt : ¬ (i : Int) < (i : Int) := by omega
      have H2 := Lib.hid (H.out.below HW.out)
      rw [HALL.out] at hnl HO
      by_cases hk0 : k = 0
      · as_aux_lemma =>
        subst hk0
        have hnil : seenC qa qb s cs = [] := List.length_eq_zero_iff.1 hnl.out
        have HK := Lib.hid (Kq.of_below (L := [g]) HW.out hB)
        have HN := Lib.hid hnil
        clear HO hnil
        go_wp2_with fail
        go_ret
        exact ⟨rfl, gc, ⟨cap, H2.out⟩, HK.out, Or.inl rfl⟩
      · as_aux_lemma =>
        have hnn : seenC qa qb s cs ≠ [] := fun e => hk0 (by have := hnl.out; rw [e] at this; exact this.symm)
        have hBB : B ≤ B1 := by rw [← hB1.out]; exact hB
        have HSM2 := HSM.out
        obtain ⟨gc', cap', e1, f1, k1, q1⟩ := RfW.set H2.out HO.out hBB hnn (fun c hc => H.out.nog (HSM2 c hc))
        have HR := Lib.hid f1
        have HK := Lib.hid ((Kq.of_below (HW.out) hB).trans k1)
        have HQ : Hid (w.heap.size ≤ gc') := Lib.hid (by rw [hB1.out]; exact q1)
        have HD : Hid (decide (seenC qa qb s cs ≠ []) = true) := Lib.hid (by simpa using hnn)
        have HN := Lib.hid hnn
        have f0 := frozen_of_row wr g 1 _ _ H2.out.hg
        have hk1 : ((k : Int) == 0) = false := by simpa using hk0
        clear f1 k1 q1 HSM2 hnn e1
        go_wp2_with fail
        go_ret
        first | exact ⟨rfl, gc', ⟨_, HR.out⟩, HK.out, Or.inr HQ.out⟩ | exact ⟨by rw [HD.out]; rfl, gc', ⟨_, by rw [if_neg HN.out]; exact HR.out⟩, HK.out, Or.inr HQ.out⟩ | (simp only [HN.out, if_false, ite_false, if_neg HN.out, HD.out]; exact ⟨rfl, gc', ⟨_, HR.out⟩, HK.out, Or.inr HQ.out⟩)
end Go.Proofs.Ytaemnelfnopjdaa
