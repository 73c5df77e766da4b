/- Package flat: now. -/
import Derived.Test.YtaemnelfnopjdaaFaC
namespace Go.Proofs.Ytaemnelfnopjdaa
open Go.RowKit Go.Deep Go.Maps
set_option linter.unusedVariables false
set_option linter.unusedSimpArgs false
section
variable {w : World} {B g bm : Nat} {M : Fl} {vt vf vc : Value} {cm : List Ch} {D : DataW Unit}
theorem chC_len (c : Ch) : (chC c).length = 2 := rfl
/-- A change in the row. -/
theorem FlAt.chg (h : FlAt w B g M vt vf vc cm bm D) {i : Nat} (hi : i < M.C.length) : ∃ gc cc a o b c, vc = .slice (some ⟨gc, 0, none⟩) M.C.length cc ∧ gc < w.heap.size ∧ M.C[i] = (a, b) ∧ w.cell? ⟨gc, i * 2, none⟩ = some (.int .i64 (a : Int)) ∧ w.cell? ⟨gc, i * 2 + 1, none⟩ = some (.slice o b.length c) ∧ ChAt w o b := by
  have hl : M.C.length = cm.length := by rw [h.ce, List.length_map]
  have hi' : i < cm.length := by omega
  obtain ⟨gc, cc, e, _, _, hgl, hr⟩ := own_rowG h.hc (by omega)
  refine ⟨gc, cc, cm[i].a, cm[i].o, cm[i].b, cm[i].c, e, hgl, ?_, ?_, ?_, h.ch _ (List.getElem_mem hi')⟩
  · have : M.C[i]? = (cm.map chP)[i]? := by rw [h.ce]
    rw [List.getElem?_eq_getElem hi, List.getElem?_map, List.getElem?_eq_getElem hi'] at this
    exact Option.some.inj this
  · have := hr (i * 2 + 0) (.int .i64 (cm[i].a : Int)) (by rw [flat_at chC 2 cm i 0 hi' (fun _ _ => rfl) (by omega)]; rfl)
    rwa [Nat.zero_add] at this
  · have := hr (i * 2 + 1) (.slice cm[i].o cm[i].b.length cm[i].c) (by rw [flat_at chC 2 cm i 1 hi' (fun _ _ => rfl) (by omega)]; rfl)
    rwa [Nat.zero_add] at this
attribute [local irreducible] stA
set_option maxRecDepth 100000 in
set_option maxHeartbeats 4000000 in
theorem now_any (s : List Nat) (h : FlAt w B g M vt vf vc cm bm D) (hs : s.length = 64) (hn : M.n ≤ 64) (hC : ChOk M.n M.C) (hCn : M.C.length ≤ 1000000) : Calls Try.prog 39 #[.pointer (some ⟨g, 0, none⟩), .agg (stA s)] w fun e w' => e = .returned (.agg (stA (foldC M.C s))) ∧ Below w.heap.size w w' := by
  obtain ⟨w1, HW1, r1, b1, s1⟩ := st_box w s
  obtain ⟨w2, HW2, r2, b2, s2⟩ := st_zero w1
  rw [s1] at r2 s2
  have r1 := (b2.block w.heap.size (by omega)).trans r1
  have B2 := b1.trans (b2.mono b1.size)
  have HF := Lib.hid (h.below B2)
  have hgl := h.lt
  have c4 : w2.cell? ⟨g, 4, none⟩ = some vc := cell_of_row w2 g 4 _ _ _ HF.out.hg
  have HCO := Lib.hid hC
  have HOL := Lib.hid (fun k (hk : k ∈ OwnL g vt vf vc bm) => (h.own_lt hk).1)
  have HL := Lib.hid (fun i => foldC_len (n := M.n) hn (C := M.C.take i) (s := s) (fun c hc => hC c (List.mem_of_mem_take hc)) hs)
  obtain ⟨n, hnn⟩ : ∃ n, Hid (M.C.length = n) := ⟨_, Lib.hid rfl⟩
  obtain ⟨gs, hgs⟩ : ∃ gs, Hid (w.heap.size = gs) := ⟨_, Lib.hid rfl⟩
  obtain ⟨ac, cc, hvc⟩ := own_slF HF.out.hc
  rw [hnn.out] at hvc
  rw [hgs.out] at r1 r2 hgl HOL
  rw [hnn.out] at hCn
  have hr0 : Hid (w2.heap[gs]? = some (.cells (stA (foldC (M.C.take 0) s)) 56 (0, 0))) := Lib.hid r1
  have hr20 := Lib.hid r2
  have HB0 := Lib.hid (Below.refl w2.heap.size w2)
  have HB2 := Lib.hid B2
  have hsz2 : w2.heap.size = gs + 1 + 1 := by rw [s2, hgs.out]
  have HSZ := Lib.hid hsz2
  have hfin : foldC M.C s = foldC (M.C.take n) s := by rw [List.take_of_length_le (by rw [hnn.out]; exact Nat.le_refl _)]
  rw [hgs.out, hfin]
  clear h b1 b2 r1 r2 s1 s2 B2 hC hfin
  subst hvc
  go_enter Try.func39, Try.ntmps39
  go_upto_region 1 with fail
  rw [HW1.out, HW2.out, hgs.out]
  clear HW1 HW2
  go_wp2_with fail
  go_loopw [12] (fun s12 wi => ∃ i : Nat, s12 = .int .i64 (i : Int) ∧ i ≤ n ∧ Hid (wi.heap[gs]? = some (.cells (stA (foldC (M.C.take i) s)) 56 (0, 0))) ∧ Hid (wi.heap[gs + 1]? = some (.cells (stA zst) 56 (0, 0))) ∧ Hid (Below gs w wi) ∧ Hid (FlAt wi B g M vt vf (.slice ac n cc) cm bm D) ∧ gs + 1 < wi.heap.size) (fun s12 _ => n - (intOf s12).toNat)
  case atStart => exact ⟨0, rfl, by omega, hr0, hr20, Lib.hid (by have := HB2.out; rwa [hgs.out] at this), HF, by rw [HSZ.out]; omega⟩
  case round =>
    obtain ⟨i, rfl, hi, HR, HZ, HB, HFi, hsz⟩ := hrel
    clear c4 HF HB0 HB2 hr0 hr20
    by_cases hlt : i < n
    · as_aux_lemma =>
      have hli : (i : Int) < (n : Int) := by omega
      have hiC : i < M.C.length := by rw [hnn.out]; exact hlt
      obtain ⟨gc, cc', a, o, b, c, evc, hgc, eC, k0, k1, hch⟩ := HFi.out.chg hiC
      rw [hnn.out] at evc
      injection evc with e1 _ e3
      subst e1 e3
      have hco := HCO.out _ (List.getElem_mem hiC)
      rw [eC] at hco
      have HL1 := Lib.hid (HL.out i)
      have HNX : Hid (foldC (M.C.take (i + 1)) s = spl (foldC (M.C.take i) s) a b) := Lib.hid (by rw [foldC_take hiC, eC])
      obtain ⟨wx, HWX, rx, bx, sx⟩ := ch_box wr (a : Int) (.slice o b.length c)
      have HCX := Lib.hid (hch.below bx)
      have x0 := cell_of_row wx wr.heap.size 0 _ _ _ rx
      have x1 := cell_of_row wx wr.heap.size 1 _ _ _ rx
      have rX := (bx.block gs (by omega)).trans HR.out
      have zX := Lib.hid ((bx.block (gs + 1) hsz).trans HZ.out)
      have BX := Lib.hid (HB.out.trans (bx.mono (by omega)))
      have FX := Lib.hid (HFi.out.below bx)
      have CB := Lib.hid (behind_any (foldC (M.C.take i) s) b a o c wx HL1.out HCX.out.1 hco.1 (by have := hco.2; have h2 : a + b.length ≤ M.n := this; omega))
      have hinf := stA_info HL1.out
      have HLN := Lib.hid (HL.out (i + 1))
      rw [HNX.out] at HLN
      have hinf2 := stA_info HLN.out
      have hone2 := stA_one (spl (foldC (M.C.take i) s) a b)
      have hsz2 : (stA (foldC (M.C.take i) s)).size = (stA (spl (foldC (M.C.take i) s) a b)).size := by rw [stA_size HL1.out, stA_size HLN.out]
      have hsw : gs + 1 < wx.heap.size := by omega
      obtain ⟨SB, hSB⟩ : ∃ SB, Hid (stA (spl (foldC (M.C.take i) s) a b) = SB) := ⟨_, Lib.hid rfl⟩
      rw [hSB.out] at CB hinf2 hsz2 hone2
      generalize stA (foldC (M.C.take i) s) = SA at *
      obtain ⟨gx, hgx⟩ : ∃ gx, Hid (wr.heap.size = gx) := ⟨_, Lib.hid rfl⟩
      rw [hgx.out] at x0 x1
      generalize b.length = bl at *
      clear HR HZ HB HFi rx bx sx hch HCX HL1 hco
      go_upto_region 4 with fail
      rw [HWX.out, hgx.out]
      clear HWX
      go_wp2_with (refine wpList_load_row rfl _ _ rfl gs rfl 56 SA (0, 0) _ rX Try.underlying56 rfl hinf ?_)
      refine CB.out.mono ?_
      rintro e w5 ⟨rfl, b5⟩
      have r5 := (b5.block gs (by omega)).trans rX
      have z5 := Lib.hid ((b5.block (gs + 1) hsw).trans zX.out)
      have B5 := Lib.hid (BX.out.trans (b5.mono (by omega)))
      have F5 := Lib.hid (FX.out.below b5)
      have hs5 : gs + 1 < w5.heap.size := Nat.lt_of_lt_of_le hsw b5.size
      have r6 : Hid ((w5.setRow gs SB).heap[gs]? = some (.cells SB 56 (0, 0))) := Lib.hid (setRow_heap w5 gs SA SB 56 (0, 0) r5)
      have z6 : Hid ((w5.setRow gs SB).heap[gs + 1]? = some (.cells (stA zst) 56 (0, 0))) := Lib.hid ((setRow_other w5 _ _ _ (by omega)).trans z5.out)
      have B6 : Hid (Below gs w (w5.setRow gs SB)) := Lib.hid (below_setRow B5.out (Nat.le_refl _) _)
      have F6 : Hid (FlAt (w5.setRow gs SB) B g M vt vf (.slice (some ⟨gc, 0, none⟩) n cc) cm bm D) := Lib.hid (F5.out.same (by rw [size_setRow]; exact Nat.le_refl _) (fun k hk => setRow_other w5 _ _ _ (fun e => by have := HOL.out k hk; omega)) (fun k hk => setRow_other w5 _ _ _ (fun e => by have hk := (F5.out.ch_ty hk).2; rw [e, tyAt_cells r5] at hk; revert hk; decide)))
      have s6 : gs + 1 < (w5.setRow gs SB).heap.size := by rw [size_setRow]; exact hs5
      clear CB b5 BX FX rX zX z5 B5 F5
      go_wp2_with (refine wpList_store_row rfl _ _ _ rfl gs SB rfl rfl 56 _ r5 hinf2 hsz2 hone2 ?_)
      generalize w5.setRow gs SB = w6 at *
      go_roundw
      case rel => exact ⟨i + 1, by go_num, by omega, Lib.hid (by rw [HNX.out, hSB.out]; exact r6.out), z6, B6, F6, s6⟩
      case measure => simp [intOf]; omega
    · as_aux_lemma =>
      have hli : ¬ (i : Int) < (n : Int) := by omega
      obtain rfl : i = n := by omega
      have hr := HR.out
      have hz := HZ.out
      have hln := HL.out i
      have hinf := stA_info hln
      have hone := stA_one (foldC (M.C.take i) s)
      have hsz2 : (stA zst).size = (stA (foldC (M.C.take i) s)).size := by rw [stA_size hln, stA_size zst_len]
      obtain ⟨SA, hSA⟩ : ∃ SA, Hid (stA (foldC (M.C.take i) s) = SA) := ⟨_, Lib.hid rfl⟩
      rw [hSA.out] at hr hinf hone hsz2
      generalize stA zst = SZ at *
      clear HR HZ HFi hln
      go_wp2_with (first | (refine wpList_load_row rfl _ _ rfl gs rfl 56 SA (0, 0) _ hr Try.underlying56 rfl hinf ?_) | (refine wpList_store_row rfl _ _ _ rfl (gs + 1) SA rfl rfl 56 _ hz hinf hsz2 hone ?_))
      refine bodyPost_ret_by (results_cell_row rfl _ _ (gs + 1) 56 SA (0, 0) _ rfl (setRow_heap _ _ _ SA 56 (0, 0) hz) Try.underlying56 rfl hinf) rfl ⟨by rw [hSA.out], ?_⟩
      exact below_setRow HB.out (by omega) _
end
end Go.Proofs.Ytaemnelfnopjdaa
