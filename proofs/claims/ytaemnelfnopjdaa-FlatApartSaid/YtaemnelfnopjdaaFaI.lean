/- Package flat: Write. -/
import Derived.Test.YtaemnelfnopjdaaFaH
namespace Go.Proofs.Ytaemnelfnopjdaa
open Go.RowKit Go.Deep Go.Maps
set_option linter.unusedVariables false
set_option linter.unusedSimpArgs false
section
variable {w : World} {B g : Nat} {OL CL : List Nat} {M : Fl}
theorem FlW.refused (a n : Int) (h : FlW w B g OL CL M) (hm : M.n ≤ 64) (hn : n ≤ 9223372036854775807) : Calls Try.prog 31 #[.pointer (some ⟨g, 0, none⟩), .int .i64 a, .int .i64 n] w fun e w' => e = .returned (.int .i64 (refF M.n a n)) ∧ w = w' := by
  obtain ⟨vt, vf, vc, cm, bm, D, h, rfl, rfl⟩ := h; exact refusedF a n h hm hn
set_option maxRecDepth 100000 in
set_option maxHeartbeats 4000000 in
theorem write_no (a : Int) (s : ByteArray) (h : FlW w B g OL CL M) (hm : M.n ≤ 64) (hs : s.size ≤ 1000000) (hr : refF M.n a (wholeN s.size) ≠ 0) : Calls Try.prog 16 #[.pointer (some ⟨g, 0, none⟩), .int .i64 a, .string s] w fun e w' => e = .returned (.int .i64 (refF M.n a (wholeN s.size))) ∧ w = w' := by
  have hwn : wholeN s.size ≤ 1000000 := by unfold wholeN; split <;> omega
  have CW := Lib.hid (whole_any s w hs)
  have CR := Lib.hid (h.refused a (wholeN s.size) hm (by omega))
  generalize refF M.n a (wholeN s.size) = r at *
  generalize wholeN s.size = k at *
  have hr1 : (r == 0) = false := by simpa using hr
  clear h hr
  go_enter Try.func16, Try.ntmps16
  go_wp2_with fail
  refine CW.out.mono ?_
  rintro e w' ⟨rfl, rfl⟩
  go_wp2_with fail
  refine CR.out.mono ?_
  rintro e w' ⟨rfl, rfl⟩
  clear CW CR
  go_wp2_with fail
  go_ret
  exact ⟨rfl, rfl⟩
set_option maxRecDepth 100000 in
set_option maxHeartbeats 8000000 in
theorem write_yes (a : Int) (s : ByteArray) (h : FlW w B g OL CL M) (hm : M.n ≤ 64) (hs : s.size ≤ 1000000) (hr : refF M.n a (wholeN s.size) = 0) (hT : M.T.length ≤ 90000) (hCn : M.C.length ≤ 100000) : Calls Try.prog 16 #[.pointer (some ⟨g, 0, none⟩), .int .i64 a, .string s] w fun e w' => e = .returned (.int .i64 0) ∧ FlS w w' B g OL CL (wrM M a.toNat s.data.toList (wholeN s.size)) := by
  have hwn : wholeN s.size ≤ 1000000 := by unfold wholeN; split <;> omega
  obtain ⟨q1, q2, q3⟩ := refF_ok hr
  have hsz := whole_ok q1
  have CW := Lib.hid (whole_any s w hs)
  have CR := Lib.hid (h.refused a (wholeN s.size) hm (by omega))
  rw [hr] at CR
  obtain ⟨k, hk⟩ : ∃ k, wholeN s.size = k := ⟨_, rfl⟩
  rw [hk] at CW CR q1 q3 hsz ⊢
  have CC := Lib.hid (cut_any s k w hsz (by omega))
  have HLEN := Lib.hid (wrL_len M.T s.data.toList)
  have HSUC := Lib.hid (wrL_succ M.T s.data.toList)
  have hpl := pcs_len s.data.toList k
  have HPG : Hid (∀ i, i < k → (strF (pcs s.data.toList k))[i]? = some (.string ⟨(pcF s.data.toList i).toArray⟩)) := Lib.hid (fun i hi => by
    unfold strF pcs
    rw [List.getElem?_map, List.getElem?_map, List.getElem?_range hi]; rfl)
  have HPZ : Hid (∀ i, (pcF s.data.toList i).length ≤ 48) := Lib.hid (fun i => by unfold pcF; rw [List.length_take]; omega)
  have HM : Hid (wrM M a.toNat s.data.toList k = { M with T := (wrL M.T (pcs s.data.toList k)).1, C := M.C ++ [(a.toNat, (wrL M.T (pcs s.data.toList k)).2)] }) := Lib.hid rfl
  rw [HM.out]
  obtain ⟨W, hW⟩ : ∃ W : Nat → List (List UInt8) × List Nat, Hid (∀ i, wrL M.T (pcs s.data.toList i) = W i) := ⟨_, Lib.hid (fun i => rfl)⟩
  have HW0 : Hid (W 0 = (M.T, [])) := Lib.hid (by rw [← hW.out]; rfl)
  simp only [hW.out] at HLEN HSUC ⊢
  generalize strF (pcs s.data.toList k) = SP at *
  generalize pcF s.data.toList = PC at *
  obtain ⟨ii, hii, hiz0, hiz1, hiz2⟩ := info_partsF info_intF
  obtain ⟨ic, hic, hcz0, hcz1, hcz2⟩ := info_partsF info_chF
  have H := Lib.hid h
  have HX := Lib.hid hm
  clear h hr hW hk HM
  go_enter Try.func16, Try.ntmps16
  go_wp2_with fail
  refine CW.out.mono ?_
  rintro e w' ⟨rfl, rfl⟩
  go_wp2_with fail
  refine CR.out.mono ?_
  rintro e w' ⟨rfl, rfl⟩
  clear CW CR
  go_wp2_with fail
  refine CC.out.mono ?_
  rintro e w2 ⟨ac, cc, rfl, hcut, b2⟩
  have HCUT := Lib.hid hcut
  have HAF := Lib.hid (fun w' M' (x : FlS w2 w' B g OL CL M') => FlS.after H.out b2 x)
  have HCB := Lib.hid (fun j (e : (Value.slice ac k cc).ownBlock = some j) => hcut.lt j e)
  have hsw2 := b2.size
  have HR0 : Hid (w2.ownsRow w2.heap.size 3 1 (.slice none 0 0) 0 (nC (W 0).2)) := Lib.hid (by rw [HW0.out]; exact World.ownsRow_nil _ _ _ _)
  have HF0 : Hid (∃ OL1 CL1, FlW w2 B g OL1 CL1 { M with T := (W 0).1 } ∧ Kq B OL w2 w2 ∧ (∀ k ∈ OL1, k ∈ OL ∨ w2.heap.size ≤ k) ∧ (∀ k ∈ CL1, k ∈ CL ∨ w2.heap.size ≤ k) ∧ ∀ j, (Value.slice none 0 0).ownBlock = some j → j ∉ CL1) := Lib.hid ⟨OL, CL, by rw [HW0.out]; exact H.out.below b2, Kq.refl _ _ _, fun k hk => Or.inl hk, fun k hk => Or.inl hk, fun j e => by cases e⟩
  clear CC hcut b2
  go_wp2_with fail
  go_loopw [8, 22] (fun s8 s22 wi => ∃ i : Nat, s22 = .int .i64 (i : Int) ∧ i ≤ k ∧ (∃ a c, s8 = .slice a i c) ∧ Hid (∃ OL1 CL1, FlW wi B g OL1 CL1 { M with T := (W i).1 } ∧ Kq B OL w2 wi ∧ (∀ k ∈ OL1, k ∈ OL ∨ w2.heap.size ≤ k) ∧ (∀ k ∈ CL1, k ∈ CL ∨ w2.heap.size ≤ k) ∧ ∀ j, s8.ownBlock = some j → j ∉ CL1) ∧ Hid (wi.ownsRow w2.heap.size 3 1 s8 i (nC (W i).2)) ∧ Hid (wi.ownsRow w.heap.size 9 1 (.slice ac k cc) k SP) ∧ w2.heap.size ≤ wi.heap.size) (fun _ s22 _ => k - (intOf s22).toNat)
  case atStart => exact ⟨0, rfl, by omega, ⟨_, _, rfl⟩, HF0, HR0, HCUT, Nat.le_refl _⟩
  case round =>
    obtain ⟨i, rfl, hi, ⟨a8, c8, rfl⟩, HF, HR, HCU, hwi⟩ := hrel
    clear HF0 HR0 HCUT
    by_cases hlt : i < k
    · as_aux_lemma =>
      have hli : (i : Int) < (k : Int) := by omega
      obtain ⟨OL1, CL1, f1, k1, n1, m1, nb1⟩ := HF.out
      rcases HCU.out.2 with ⟨e9, h0⟩ | ⟨rg, cap, cur, e9, hbr, hgr, _⟩
      · omega
      injection e9 with e1 _ e3
      subst e1 e3
      have ck := HCU.out.cells (g := rg) rfl i _ (HPG.out i hlt)
      rw [Addr.add_lit, Nat.zero_add] at ck
      obtain ⟨l1, l2⟩ := HLEN.out i
      have CK := Lib.hid (keep_any (⟨(PC i).toArray⟩ : ByteArray) f1 (by rw [bytes_size]; have := HPZ.out i; omega) (by show (W i).1.length ≤ _; omega))
      have HS1 := Lib.hid (HSUC.out i)
      have hnr : rg ∉ OL1 := fun hj => by
        have hb := HCB.out rg rfl
        rcases n1 rg hj with h | h
        · have := (H.out.own_lt h).1; omega
        · omega
      have HF1 := Lib.hid f1
      have HK1 := Lib.hid k1
      have HN1 := Lib.hid n1
      have HM1 := Lib.hid m1
      have HNB := Lib.hid nb1
      have h0k : (0 : Int) ≤ (i : Int) := by omega
      obtain ⟨x, hx⟩ : ∃ x, Hid ((⟨(PC i).toArray⟩ : ByteArray) = x) := ⟨_, Lib.hid rfl⟩
      have hxl : x.data.toList = PC i := by rw [← hx.out]
      rw [hx.out] at ck CK
      obtain ⟨ix, hix⟩ : ∃ ix : Nat, Hid ((keepT (W i).1 (PC i)).idxOf (PC i) = ix) := ⟨_, Lib.hid rfl⟩
      rw [hxl] at CK
      have CK : Hid (Calls Try.prog 34 #[.pointer (some ⟨g, 0, none⟩), .string x] wr fun e w' => e = .returned (.int .i64 (ix : Int)) ∧ FlS wr w' B g OL1 CL1 { M with T := keepT (W i).1 (PC i) }) := Lib.hid (by rw [← hix.out]; exact CK.out)
      clear hx hxl HF f1 k1 n1 m1 nb1
      go_wp2_with fail
      refine CK.out.mono ?_
      rintro e w3 ⟨rfl, fs3⟩
      obtain ⟨OL3, CL3, f3, k3, n3, m3⟩ := fs3
      obtain ⟨_, _, _, k13, _, _⟩ := FlS.step (w2 := w3) HF1.out HK1.out HN1.out HM1.out ⟨OL3, CL3, f3, k3, n3, m3⟩
      have hN3 : ∀ k ∈ OL3, k ∈ OL ∨ w2.heap.size ≤ k := fun k hk => by
        rcases n3 k hk with h | h
        · exact HN1.out k h
        · exact Or.inr (Nat.le_trans HK1.out.below.size h)
      have hM3 : ∀ k ∈ CL3, k ∈ CL ∨ w2.heap.size ≤ k := fun k hk => by
        rcases m3 k hk with h | h
        · exact HM1.out k h
        · exact Or.inr (Nat.le_trans HK1.out.below.size h)
      have hNB3 : ∀ j, (Value.slice a8 i c8).ownBlock = some j → j ∉ CL3 := fun j e hj => by
        rcases m3 j hj with h | h
        · exact HNB.out j e h
        · have := (HR.out.lt j e).2; omega
      have HK13 := Lib.hid k13
      have HN3 := Lib.hid hN3
      have HM3 := Lib.hid hM3
      have HNB3 := Lib.hid hNB3
      clear hN3 hM3 hNB3 k13
      have HB3 := f3.bw
      have HR3 := own_at_block HR.out (fun j e => k3.other j (HR.out.lt j e).2 (HF1.out.noint (tyAt_row HR.out e)))
      have HC3 := own_at_block HCU.out (fun j e => k3.other j (HCU.out.lt j e).2 (fun hm => by cases e; exact hnr hm))
      have hs3 := k3.below.size
      have hrow := HR3
      have hsrc := src_intF (w := w3) (ix : Int)
      have o1 : i + 1 ≤ maxLen := by unfold maxLen; omega
      have o2 : (i + 1) * 8 ≤ 140737488355328 := by omega
      have o3 : w2.heap.size ≤ (w3.alloc (.cells #[.int .i64 (ix : Int)] 3)).heap.size := by simp; omega
      have HC3' := Lib.hid HC3
      have HF3 := Lib.hid f3
      have hw23 : w2.heap.size ≤ w3.heap.size := Nat.le_trans hwi hs3
      clear CK k3 n3 m3 HR HCU HK1 HN1 HM1 HNB HR3 HC3 f3 ck
      go_wp2_with (at_builtin; refine wpList_append_src2 _ rfl _ _ 67 67 rfl w2.heap.size 3 ii (.int .i64 0) 1 8 Try.underlying67 hii hiz0 hiz1 hiz2 rfl (by decide) (.slice a8 i c8) i (nC (W i).2) rfl (hrow.alloc _) _ 1 [.int .i64 (ix : Int)] rfl hsrc o1 o2 o3 ?_)
      intro v' w7 hown7 hg7 hloc7
      have ba : Below w3.heap.size w3 (w3.alloc (.cells #[.int .i64 (ix : Int)] 3)) := (Below.refl _ _).alloc (Nat.le_refl _) _
      have K7 : Kq w2.heap.size (Value.slice a8 i c8).ownBlock.toList w3 w7 := Kq.trans (Kq.of_below ba hw23) (Kq.of_grownO hg7 o3 (fun j e => (hrow.lt j e).1))
      have hsz7 := K7.below.size
      have hT3 : ∀ j ∈ (Value.slice a8 i c8).ownBlock.toList, tyAt w3 j = some 3 ∧ w2.heap.size ≤ j := fun j hj => by
        have e : (Value.slice a8 i c8).ownBlock = some j := by simpa using hj
        exact ⟨tyAt_row hrow e, (hrow.lt j e).1⟩
      obtain ⟨a7, c7, rfl⟩ := own_slF hown7
      have HFN : Hid (∃ OL1 CL1, FlW w7 B g OL1 CL1 { M with T := (W (i + 1)).1 } ∧ Kq B OL w2 w7 ∧ (∀ k ∈ OL1, k ∈ OL ∨ w2.heap.size ≤ k) ∧ (∀ k ∈ CL1, k ∈ CL ∨ w2.heap.size ≤ k) ∧ ∀ j, (Value.slice a7 (i + 1) c7).ownBlock = some j → j ∉ CL1) := Lib.hid (by
        refine ⟨OL3, CL3, ?_, ⟨HK13.out.below.trans (K7.below.mono (Nat.le_trans H.out.bw hsw2)), fun k hk hn => ?_⟩, HN3.out, HM3.out, fun j e => ?_⟩
        · have hx : ({ M with T := (W (i + 1)).1 } : Fl) = { M with T := keepT (W i).1 (PC i) } := by rw [HS1.out]; rfl
          rw [hx]
          exact HF3.out.kq K7 (fun j hj hm => HF3.out.noint (hT3 j hm).1 hj) (fun j hj hm => HNB3.out j (by simpa using hm) hj)
        · exact (K7.other k (by omega) (fun hm => by have := (hT3 k hm).2; omega)).trans (HK13.out.other k hk hn)
        · rcases hloc7 with h | h
          · exact HNB3.out j (by rw [← h]; exact e)
          · rw [h] at e
            cases e
            intro hj
            have := (HF3.out.ch_ty hj).1
            have := ba.size
            omega)
      have HRN : Hid (w7.ownsRow w2.heap.size 3 1 (.slice a7 (i + 1) c7) (i + 1) (nC (W (i + 1)).2)) := Lib.hid (by
        have hx : nC (W (i + 1)).2 = nC (W i).2 ++ [.int .i64 (ix : Int)] := by
          rw [HS1.out]
          show nC ((W i).2 ++ [(keepT (W i).1 (PC i)).idxOf (PC i)]) = _
          rw [nC_app, hix.out]; rfl
        rw [hx]; exact hown7)
      have HCN : Hid (w7.ownsRow w.heap.size 9 1 (.slice (some ⟨rg, 0, none⟩) k cc) k SP) := Lib.hid (own_at_block HC3'.out (fun j e => K7.other j (HC3'.out.lt j e).2 (fun hm => by
        have := (hT3 j hm).1
        rw [tyAt_row HC3'.out e] at this
        revert this; decide)))
      have hw27 : w2.heap.size ≤ w7.heap.size := Nat.le_trans hw23 hsz7
      clear hown7 hg7 hloc7 K7 hT3 hsz7 ba hrow hsrc o1 o2 o3 HF3 HK13 HN3 HM3 HNB3 HC3' HS1 HF1 hs3
      go_wp2_with fail
      go_roundw
      case rel => exact ⟨i + 1, by go_num, by omega, ⟨_, _, rfl⟩, HFN, HRN, HCN, hw27⟩
      case measure => simp [intOf]; omega
    · as_aux_lemma =>
      have hli : ¬ (i : Int) < (k : Int) := by omega
      obtain rfl : i = k := by omega
      obtain ⟨OL1, CL1, ⟨vt, vf, vc, cm, bm, D, hfl, rfl, rfl⟩, k1, n1, m1, nb1⟩ := HF.out
      obtain ⟨l1, l2⟩ := HLEN.out i
      obtain ⟨b, hb⟩ : ∃ b, Hid ((W i).2 = b) := ⟨_, Lib.hid rfl⟩
      rw [hb.out] at l1
      have hrb := HR.out
      rw [hb.out] at hrb
      obtain ⟨A, hA⟩ : ∃ A : Nat, a = (A : Int) := ⟨a.toNat, by omega⟩
      subst hA
      have hch : ChAt wr a8 b := int_row_ch (base := w2.heap.size) (c := c8) (by rw [l1]; exact hrb)
      have hao : ∀ x, a8 = some x → w2.heap.size ≤ x.block := fun x e => by
        rcases hrb.2 with ⟨e9, h0⟩ | ⟨rg, cap, cur, e9, hbr, _⟩
        · injection e9 with e1; rw [e1] at e; cases e
        · injection e9 with e1; rw [e1] at e; cases e; exact hbr
      obtain ⟨ac9, cc9, evc⟩ := own_slF hfl.hc
      have hrow := hfl.hc
      have c4 := cell_of_row wr g 4 _ _ _ hfl.hg
      have hMC : ({ M with T := (W i).1 } : Fl).C = M.C := rfl
      rw [hMC] at hrow evc
      obtain ⟨n, hn⟩ : ∃ n, Hid (M.C.length = n) := ⟨_, Lib.hid rfl⟩
      rw [hn.out] at hrow evc hCn
      subst evc
      obtain ⟨w4, hw4⟩ : ∃ w4, wr.alloc (.cells #[.int .i64 (A : Int), .slice a8 i c8] 70) = w4 := ⟨_, rfl⟩
      have ba : Below wr.heap.size wr w4 := by rw [← hw4]; exact (Below.refl _ _).alloc (Nat.le_refl _) _
      have hsrc := src_ch (w := wr) (.int .i64 (A : Int)) (.slice a8 i c8) rfl rfl
      rw [hw4] at hsrc
      have hrow4 := own_at_block hrow (fun j e => ba.block j (hrow.lt j e).2)
      have o1 : n + 1 ≤ maxLen := by unfold maxLen; omega
      have o2 : (n + 1) * 32 ≤ 140737488355328 := by omega
      have o3 : B ≤ w4.heap.size := Nat.le_trans hfl.bw ba.size
      have HFL := Lib.hid hfl
      have hg4 := (hfl.below ba).hg
      have hnc : ∀ (w5 : World), w4.grownBy w5 (Value.slice ac9 n cc9).ownBlock → w5.heap[g]? = some (.cells #[.int .i64 (M.n : Int), vt, .map (some bm), vf, .slice ac9 n cc9] 60 (0, 0)) := fun w5 G5 => (G5.block g (hfl.below ba).lt (fun e => (hfl.fc e.symm).2.2.1 rfl)).trans hg4
      have HK1 := Lib.hid k1
      have HN1 := Lib.hid n1
      have HM1 := Lib.hid m1
      have HAO := Lib.hid hao
      have HCHA := Lib.hid (hch.below ba)
      have HW4 := Lib.hid hw4
      clear HF HR HCU k1 n1 m1 nb1 hch hao hfl hrow hw4 hg4
      go_wp2_with (at_builtin; rw [HW4.out]; refine wpList_append_src2 _ rfl _ _ 58 58 rfl B 70 ic (.agg #[.int .i64 0, .slice none 0 0]) 2 32 Try.underlying58 hic hcz0 hcz1 hcz2 rfl (by decide) (.slice ac9 n cc9) n (cm.flatMap chC) rfl hrow4 _ 1 [.int .i64 (A : Int), .slice a8 i c8] rfl hsrc o1 o2 o3 ?_; intro v5 w5 O5 G5 L5; have hg5 := hnc w5 G5; have c05 := cell_of_row w5 g 4 _ _ _ hg5; have f05 := frozen_of_row w5 g 4 _ _ hg5; obtain ⟨a5, c5, rfl⟩ := own_slF O5)
      have HFIN := Lib.hid (HFL.out.add_c (a := A) (b := b) (ao := a8) (c := c8) ba HCHA.out (by rw [l1]; show w5.ownsRow B _ 2 _ (M.C.length + 1) _; rw [hn.out]; exact O5) G5 L5)
      have HEND : Hid (FlS w (w5.setCell ⟨g, 4, none⟩ (.slice a5 (n + 1) c5)) B g OL CL { M with T := (W i).1, C := M.C ++ [((A : Int).toNat, (W i).2)] }) := Lib.hid (by
        obtain ⟨OL2, CL2, f2, k2, n2, m2⟩ := HFIN.out
        rw [hb.out]
        exact HAF.out _ _ (FlS.join HK1.out HN1.out HM1.out f2 k2 n2 m2 HAO.out))
      clear O5 G5 L5 hg5 c05 f05 HFIN hrow4 hsrc hnc
      go_wp2_with fail
      go_ret
      exact ⟨rfl, HEND.out⟩
end
end Go.Proofs.Ytaemnelfnopjdaa
