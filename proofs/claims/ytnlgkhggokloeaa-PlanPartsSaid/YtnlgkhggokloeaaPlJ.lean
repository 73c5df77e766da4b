/- Package plan: Of and Root. -/
import Derived.Test.YtnlgkhggokloeaaPlI
namespace Go.Proofs.Ytnlgkhggokloeaa
open Go.RowKit Go.Deep
set_option linter.unusedVariables false
set_option linter.unusedSimpArgs false
attribute [local irreducible] rcA
/-- What Of comes to. -/
def OfR (L : List Rv) (w : World) (e : Ending) (w' : World) : Prop := ∃ a c, e = .returned (.tuple #[.slice a (ofL L).length c, .int .i64 (ofE L)]) ∧ PuAt w' a (ofL L) ∧ Below w.heap.size w w'
theorem rv_size {w : World} {x : Rv} (h : RvOk w x) : (Try.prog.info? 34).map (·.size) = some (rvL x).length := by rw [rvL_len h]; kernel_rfl
set_option maxRecDepth 100000 in
set_option maxHeartbeats 8000000 in
theorem of_any (ao : Option Addr) (c : Nat) (L : List Rv) (w : World) (hat : RsAt w ao L) (hn : L.length ≤ 9223372036854775807) (hm : (allP L).length ≤ 10000) : Calls Try.prog 9 #[.slice ao L.length c] w (OfR L w) := by
  obtain ⟨i1, hi1, hy0, hy1, hy2⟩ := info_partsO info_putO
  have HAT := Lib.hid hat
  have HWF := Lib.hid (allP_wf hat.1)
  obtain ⟨n, hnn⟩ : ∃ n, Hid (L.length = n) := ⟨_, Lib.hid rfl⟩
  rw [hnn.out] at hn ⊢
  clear hat
  go_enter Try.func9, Try.ntmps9
  go_wp2_with fail
  go_loopw [4, 10] (fun s3 s4 wi => ∃ (i : Nat) (M : List Pu), s4 = .int .i64 (i : Int) ∧ i ≤ n ∧ (∃ a c, s3 = .slice a M.length c) ∧ Hid (allP (L.take i) = M) ∧ Hid (ofE L = ofE (L.drop i)) ∧ Hid (PuO w.heap.size wi s3 M) ∧ Hid (Below w.heap.size w wi)) (fun _ s4 _ => n - (intOf s4).toNat)
  case atStart => exact ⟨0, [], rfl, by omega, ⟨_, _, rfl⟩, Lib.hid rfl, Lib.hid rfl, Lib.hid (World.ownsRow_nil _ _ _ _), Lib.hid (Below.refl _ _)⟩
  case round =>
    obtain ⟨i, M, rfl, hi, ⟨a3, c3, rfl⟩, HE, HF, HO, HB⟩ := hrel
    by_cases hlt : i < n
    · as_aux_lemma =>
      have hli : (i : Int) < (n : Int) := by omega
      have hil : i < L.length := by rw [hnn.out]; exact hlt
      have HOK := HAT.out.1 _ (List.getElem_mem hil)
      obtain ⟨g, o, rfl, hg, hc⟩ := HAT.out.2 (by omega)
      have hr0 := range_below (hc i hil) hg hg HB.out
      have HSZ := Lib.hid (rv_size HOK)
      have HE2 : Hid (allP (L.take (i + 1)) = M ++ L[i].r.ps) := Lib.hid (by rw [allP_snoc L i hil, HE.out])
      have hl2 := allP_le L (i + 1)
      rw [HE2.out, List.length_append] at hl2
      have HF1 := Lib.hid (ofE_at HF.out hil).1
      have HF2 := Lib.hid (ofE_at HF.out hil).2
      have HPU := Lib.hid (HOK.puts.below HB.out)
      have hcap := HOK.cap
      have hmax := HOK.max
      have hroot := HOK.root
      have HLN := Lib.hid (rvL_len HOK)
      clear hc HOK HE HF
      generalize L[i] = z at *
      obtain ⟨r, za, zc⟩ := z
      have HR : Hid (Src Try.prog 2 25 (.slice za r.ps.length zc) r.ps.length (puC r.ps) wr) := Lib.hid (src_pu HPU.out)
      dsimp only at *
      have HONE := Lib.hid (rvL_one ⟨r, za, zc⟩)
      have HARR := Lib.hid (rvL_arr ⟨r, za, zc⟩)
      obtain ⟨cs, hcs⟩ : ∃ cs, rvL ⟨r, za, zc⟩ = cs := ⟨_, rfl⟩
      rw [hcs] at hr0 HSZ HLN HONE HARR
      unfold rvS at HARR
      dsimp only at HARR
      have hbs := HB.out.size
      have HQ : Hid (wr.ownsRow w.heap.size 48 2 (.slice a3 M.length c3) M.length (puC M)) := Lib.hid HO.out
      obtain ⟨m, hmm⟩ : ∃ m, Hid (r.ps.length = m) := ⟨_, Lib.hid rfl⟩
      rw [hmm.out] at HR hl2 hcap HARR
      clear hcs
      have t1 : (Try.prog.info? 34).map (·.size) = some cs.toArray.size := by rw [List.size_toArray]; exact HSZ.out
      have t2 : cs.toArray.all (·.oneCell') = true := HONE.out
      have t3 : cs.toArray.size = 34 := by rw [List.size_toArray, HLN.out]
      go_upto_region 5 with (first | (refine wpList_load_mid rfl 34 _ rfl g (o + i * 34) rfl cs _ hr0 Try.underlying34 rfl HSZ.out ?_) | (refine wpList_store_new rfl 34 _ _ rfl wr.heap.size cs.toArray rfl rfl 34 _ (heap_alloc_new _ _) t1 (by rw [t3]; rfl) t2 ?_; intro w2 hrow2 hbel2 hs2))
      have HB2 := Lib.hid (HB.out.trans (((Below.refl wr.heap.size wr).alloc (Nat.le_refl _) _).trans hbel2 |>.mono hbs))
      have b2 := (((Below.refl wr.heap.size wr).alloc (Nat.le_refl _) _).trans hbel2)
      obtain ⟨gx, hgx⟩ : ∃ gx, Hid (wr.heap.size = gx) := ⟨_, Lib.hid rfl⟩
      rw [hgx.out]
      rw [HARR.out, hgx.out] at hrow2
      rw [HARR.out]
      have hRA : RcAt w2 gx r (.slice za m zc) := ⟨hrow2, hroot⟩
      have c33 := hRA.ps
      have CK := Lib.hid (check_any r za m zc w2 hroot hmm.out (by omega) (ptAt_of (HPU.out.below b2)))
      have HS2 : Hid (Src Try.prog 2 25 (.slice za m zc) m (puC r.ps) w2) := Lib.hid (by rw [← hmm.out]; exact src_pu (HPU.out.below b2))
      have HPU2 := Lib.hid (HPU.out.below b2)
      have HO2 : Hid (PuO w.heap.size w2 (.slice a3 M.length c3) M) := Lib.hid (PuO.below HO.out b2)
      have hsz : (Try.prog.info? 34).map (·.size) = some (rcA r (.slice za m zc)).size := by rw [rcA_size _ _ hroot]; kernel_rfl
      have hgl := hRA.lt
      clear hrow2 hbel2 hs2 t1 t2 t3 HONE HARR HLN HSZ hr0 HR HPU HO HQ HB b2 hbs
      have hrow2 := hRA.1
      clear hRA
      go_wp2_with (refine wpList_load_row rfl 34 _ rfl gx rfl 34 (rcA r (.slice za m zc)) (0, 0) _ hrow2 Try.underlying34 rfl hsz ?_)
      refine CK.out.mono ?_
      rintro e w3 ⟨rfl, hb3⟩
      have HB3 := Lib.hid (HB2.out.trans (hb3.mono HB2.out.size))
      have c33 := (hb3.cell (p := ⟨gx, 33, none⟩) hgl).trans c33
      have HPU3 := Lib.hid (HPU2.out.below hb3)
      have HS3 : Hid (Src Try.prog 2 25 (.slice za m zc) m (puC r.ps) w3) := Lib.hid (by rw [← hmm.out]; exact src_pu HPU3.out)
      have HQ : Hid (w3.ownsRow w.heap.size 48 2 (.slice a3 M.length c3) M.length (puC M)) := Lib.hid (PuO.below HO2.out hb3)
      have hbs := HB3.out.size
      clear CK hb3 HB2 HPU2 HS2 HO2 hrow2 hsz
      obtain ⟨E, hE⟩ : ∃ E, chkE r = E := ⟨_, rfl⟩
      rw [hE] at HF1 HF2
      rw [hE]
      clear hE
      by_cases h0 : E = 0
      · subst h0
        have HF3 := Lib.hid (HF2.out rfl)
        clear HF1 HF2
        go_wp2_with (at_builtin; refine wpList_append_src _ rfl _ _ 25 25 rfl w.heap.size 48 i1 (.agg #[.int .i64 0, .string ⟨#[]⟩]) Try.underlying25 hi1 hy0 (by rw [hy1]; rfl) _ M.length (puC M) rfl (by rw [hy1]; exact HQ.out) _ m (puC r.ps) rfl (by rw [hy1]; exact HS3.out) (by unfold maxLen; omega) (by rw [hy2]; omega) hbs ?_)
        intro v' w5 hown hg5
        try rw [hy1] at hown
        have HO5 : Hid (PuO w.heap.size w5 v' (M ++ r.ps)) := Lib.hid (by unfold PuO; rw [List.length_append, hmm.out, puC_app]; exact hown)
        have HB5 := Lib.hid (HB3.out.grown hg5 hbs (fun j e => (HQ.out.lt j e).1))
        obtain ⟨a', c', rfl, _, _, _⟩ := own_puM HO5.out
        clear hown hg5 HB3 HQ HS3 HPU3
        go_wp2_with fail
        go_roundw
        case rel => exact ⟨i + 1, M ++ r.ps, by go_num, by omega, ⟨_, _, rfl⟩, HE2, HF3, HO5, HB5⟩
        case measure => simp [intOf]; omega
      · have HF3 := Lib.hid (HF1.out h0)
        have hE1 : (E != 0) = true := by simpa using h0
        have HL0 : Hid (ofL L = []) := Lib.hid (by unfold ofL; rw [HF3.out, if_neg h0])
        clear HF1 HF2
        go_wp2_with fail
        go_ret2
        unfold OfR
        rw [HL0.out, HF3.out]
        exact ⟨none, 0, rfl, fun h => by simp at h, HB3.out⟩
    · as_aux_lemma =>
      have hli : ¬ (i : Int) < (n : Int) := by omega
      have hin : i = n := by omega
      have HEA : Hid (allP L = M) := Lib.hid (by rw [← HE.out, hin, ← hnn.out, List.take_length])
      have HZ : Hid (ofE L = 0) := Lib.hid (ofE_end HF.out (by have := hnn.out; omega))
      have HLA : Hid (ofL L = setAll [] M) := Lib.hid (by unfold ofL; rw [if_pos HZ.out, HEA.out])
      rw [HEA.out] at hm HWF
      obtain ⟨a', c', e9, _, _, hpu⟩ := own_puM HO.out
      injection e9 with e1 e2 e3
      subst e1 e3
      have CL := Lib.hid (last_any a3 c3 M wr hpu.out (by omega) HWF.out)
      generalize M.length = m at *
      clear HO hpu HEA HE HF
      go_wp2_with fail
      refine CL.out.mono ?_
      rintro e w3 ⟨a4, c4, rfl, hpu, hb3⟩
      have HP := Lib.hid hpu
      have HB3 := Lib.hid (HB.out.trans (hb3.mono HB.out.size))
      clear hpu hb3 CL
      rw [← HLA.out] at HP ⊢
      go_wp2_with fail
      go_ret2
      unfold OfR
      rw [HZ.out]
      exact ⟨_, _, rfl, HP.out, HB3.out⟩
end Go.Proofs.Ytnlgkhggokloeaa
