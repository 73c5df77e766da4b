/- The law RecordParses. -/
import Derived.Test.YthhaadcpenlnkaaRcW
namespace Go.Proofs.Ythhaadcpenlnkaa
open Go.ChangeShapes Go.WideShapes Go.Deep Go.RowKit
set_option linter.unusedVariables false
set_option linter.unusedSimpArgs false
attribute [local irreducible] rcA
theorem resR_le (L : List ByteArray) : (resR L).ps.length ≤ 64 := by
  unfold resR
  split
  · rename_i h; rw [recP_len]; exact (eP_zero h).2.1.2.2.2
  · simp [rz0]
theorem allF_le : ∀ (n : Nat) (L : List ByteArray) (acc : List Rc), L.length ≤ n → (∀ R ∈ acc, R.ps.length ≤ 64) → ∀ R ∈ (allF L acc).1, R.ps.length ≤ 64
  | 0, L, acc, hl, ha => by
    have : L = [] := List.length_eq_zero_iff.1 (by omega)
    rw [this, allF_nil]
    exact ha
  | n + 1, L, acc, hl, ha => by
    by_cases h : L = []
    · rw [h, allF_nil]; exact ha
    · by_cases h2 : eP L = 0
      · rw [allF_ok _ h2]
        refine allF_le n _ _ ?_ (fun R hR => ?_)
        · have := lenN_pos (cntP (tB L 0))
          rw [List.length_drop]; omega
        · rcases List.mem_append.1 hR with hR | hR
          · exact ha R hR
          · simp at hR
            subst hR
            have := resR_le L
            rw [resR_good h2] at this
            exact this
      · rw [allF_bad _ h h2]
        intro R hR
        cases hR
theorem map_len {X Y : List Rx} (h : X.map (·.1) = Y.map (·.1)) : X.length = Y.length := by have := congrArg List.length h; simpa using this
theorem map_at {X Y : List Rx} (h : X.map (·.1) = Y.map (·.1)) (i : Nat) (h1 : i < X.length) (h2 : i < Y.length) : X[i].1 = Y[i].1 := by
  have h3 : (X.map (·.1))[i]? = (Y.map (·.1))[i]? := by rw [h]
  rw [List.getElem?_map, List.getElem?_map, List.getElem?_eq_getElem h1, List.getElem?_eq_getElem h2] at h3
  simpa using h3
set_option maxRecDepth 100000 in
set_option maxHeartbeats 8000000 in
theorem recordParses_any (L : List ByteArray) (al : Option Addr) (nl cl : Nat) (w : World) (hL : L.length = nl) (hlc : nl ≤ cl) (hcl : cl ≤ maxLen) (hTL : TxtAt w al L) :
    Calls Try.prog 4 #[.slice al nl cl] w fun e w' => e = .returned (.bool true) ∧ Below w.heap.size w w' := by
  have hnlm : nl ≤ 9223372036854775807 := by unfold maxLen at hcl; omega
  have PA := Lib.hid awake13
  have HTL := Lib.hid hTL
  have HL := Lib.hid hL
  have HSH := Lib.hid (short_any L al nl cl w hL hnlm hTL)
  by_cases hs : shortP L
  · rw [decide_eq_true hs] at HSH
    have h200 : nl < 200 := by have := hs.1; rw [hL] at this; exact this
    have PP := Lib.hid (parse_any L al nl cl w hL hlc hcl hTL)
    have PR := Lib.hid (fun (w' : World) (h : Below w.heap.size w w') => rparse_any L al nl cl w' hL hlc hcl (hTL.below h))
    have PL := Lib.hid (fun (w' : World) (h : Below w.heap.size w w') => all_any L al nl cl w' hL hlc hcl (by omega) (hTL.below h))
    have PZ := Lib.hid rparse_any
    have hr32 := resR_root L
    have hr64 := resR_le L
    have hF := Lib.hid (rfl : allF L [] = allF L [])
    obtain ⟨T, hT⟩ : ∃ T, Hid (allF L [] = T) := ⟨_, Lib.hid rfl⟩
    rw [hT.out] at PL
    unfold ParseP at PP PR
    unfold AllP at PL
    generalize resR L = R at *
    generalize resN L = nz at *
    generalize eP L = z at *
    obtain ⟨k, hk⟩ : ∃ k, Hid (R.ps.length = k) := ⟨_, Lib.hid rfl⟩
    rw [hk.out] at PP PR
    have hzr := zero_rc
    have hk64 : k ≤ 64 := by rw [← hk.out]; exact hr64
    have hnn : (nz != nz) = false := by simp
    have hzz : (z != z) = false := by simp
    have HLE : Hid (∀ R ∈ T.1, R.ps.length ≤ 64) := Lib.hid (by rw [← hT.out]; exact allF_le L.length L [] (Nat.le_refl _) (fun R h => by cases h))
    clear hs hTL hL hF
    go_enter Try.func4, Try.ntmps4
    go_wp2_with fail
    refine HSH.out.mono ?_
    rintro e w1 ⟨rfl, rfl⟩
    go_wp2_with fail
    refine PP.out.mono ?_
    rintro e w2 ⟨a2, c2, rfl, hP2, _, b2⟩
    have hsz2 := rc_loaded (.slice a2 k c2) hr32
    have hone2 := rcA_one R (.slice a2 k c2) rfl
    have HP2 := Lib.hid hP2
    have HB2 := Lib.hid b2
    clear PP HSH hP2 b2
    obtain ⟨w3, HW3, HR3, HB3⟩ := made_rc w2
    go_upto_region 4 with (rw [HW3.out]; refine wpList_store_row rfl _ _ _ rfl w2.heap.size (rcA R (.slice a2 k c2)) rfl rfl 26 _ HR3.1 hsz2 (by rw [rcA_size _ _ HR3.2, rcA_size _ _ hr32]) hone2 ?_)
    have hX3 : RcAt (w3.setRow w2.heap.size (rcA R (.slice a2 k c2))) w2.heap.size R (.slice a2 k c2) := ⟨setRow_heap _ _ _ _ 26 (0, 0) HR3.1, hr32⟩
    have b3 := below_setRow HB3.out (Nat.le_refl _) (rcA R (.slice a2 k c2))
    have HX4 := Lib.hid hX3
    have HB4 := Lib.hid (HB2.out.trans (b3.mono HB2.out.size))
    have HP4 := Lib.hid (HP2.out.below b3)
    clear HR3 HB3 HW3 hX3 b3 HB2 HP2
    generalize w3.setRow w2.heap.size (rcA R (.slice a2 k c2)) = w4 at *
    generalize w2.heap.size = gx at *
    go_wp2_with fail
    refine (PR.out _ HB4.out).mono ?_
    rintro e w5 ⟨a5, c5, rfl, hP5, _, b5⟩
    have hsz5 := rc_loaded (.slice a5 k c5) hr32
    have hone5 := rcA_one R (.slice a5 k c5) rfl
    have HP5 := Lib.hid hP5
    have HB5 := Lib.hid (HB4.out.trans (b5.mono HB4.out.size))
    have HX5 := Lib.hid (HX4.out.below b5)
    have HQ5 := Lib.hid (HP4.out.below b5)
    clear PR hP5 b5 HB4 HX4 HP4
    obtain ⟨w6, HW6, HR6, HB6⟩ := made_rc w5
    go_upto_region 5 with (rw [HW6.out]; refine wpList_store_row rfl _ _ _ rfl w5.heap.size (rcA R (.slice a5 k c5)) rfl rfl 26 _ HR6.1 hsz5 (by rw [rcA_size _ _ HR6.2, rcA_size _ _ hr32]) hone5 ?_)
    have hY6 : RcAt (w6.setRow w5.heap.size (rcA R (.slice a5 k c5))) w5.heap.size R (.slice a5 k c5) := ⟨setRow_heap _ _ _ _ 26 (0, 0) HR6.1, hr32⟩
    have b6 := below_setRow HB6.out (Nat.le_refl _) (rcA R (.slice a5 k c5))
    have HB7 := Lib.hid (HB5.out.trans (b6.mono HB5.out.size))
    have L1 := loaded_rc (HX5.out.below b6)
    have L2 := loaded_rc hY6
    have PS := Lib.hid (rsame_any R R a2 a5 k c2 k c5 (w6.setRow w5.heap.size (rcA R (.slice a5 k c5))) hr32 hr32 hk.out hk.out (by omega) (by omega) (HQ5.out.below b6) (HP5.out.below b6))
    rw [rcEq_self] at PS
    clear HR6 HB6 HW6 hY6 b6 HB5 HP5 HX5 HQ5
    generalize w6.setRow w5.heap.size (rcA R (.slice a5 k c5)) = w7 at *
    generalize w5.heap.size = gy at *
    go_wp2_with (first | ((with_reducible refine wpList_load_row_i (g := gx) (cs := rcA R (.slice a2 k c2)) 26 _ rfl ?_ ?_ ?_); exact ⟨rfl, rfl⟩; assumption) | ((with_reducible refine wpList_load_row_i (g := gy) (cs := rcA R (.slice a5 k c5)) 26 _ rfl ?_ ?_ ?_); exact ⟨rfl, rfl⟩; assumption))
    refine PS.out.mono ?_
    rintro e w8 ⟨rfl, b8⟩
    have HB8 := Lib.hid (HB7.out.trans (b8.mono HB7.out.size))
    clear L1 L2 PS b8 HB7
    go_wp2_with fail
    refine (PL.out _ HB8.out).mono ?_
    rintro e w9 ⟨v9, X9, rfl, hX9, O9, K9, b9⟩
    have HX9 := Lib.hid hX9
    have HO9 := Lib.hid O9
    have HK9 := Lib.hid K9
    have HB9 := Lib.hid (HB8.out.trans (b9.mono HB8.out.size))
    obtain ⟨a9, c9, rfl⟩ := own_at34 O9
    clear PL hX9 O9 K9 b9
    obtain ⟨ir, hir, hr0, hr1, hr2⟩ := rc_info info_recR
    have HTL9 := Lib.hid (HTL.out.below HB9.out)
    have HO0 : Hid (w9.ownsRow w9.heap.size 26 34 nilS 0 (rsV [])) := Lib.hid (World.ownsRow_nil _ _ _ _)
    have HX0 : Hid (rsOk w9 []) := Lib.hid (rsOk.nil w9)
    have HF0 : Hid (allF L (([] : List Rx).map (·.1)) = T) := hT
    have HB0 : Hid (Below w9.heap.size w9 w9) := Lib.hid (Below.refl _ _)
    clear hT hnn hzz
    go_wp2_with fail
    go_loopw [11, 12, 13, 14, 15, 16] (fun x11 x12 x13 _ _ _ wi => ∃ (M : List ByteArray) (a : Option Addr) (m c : Nat) (v : Value) (X : List Rx), x13 = .slice a m c ∧ x11 = v ∧ x12 = .int .i64 0 ∧ Hid (M.length = m) ∧ X.length + m ≤ nl ∧ m ≤ c ∧ c ≤ maxLen ∧ Hid (TxtAt w9 a M) ∧ Hid (wi.ownsRow w9.heap.size 26 34 v X.length (rsV X)) ∧ Hid (rsOk wi X) ∧ Hid (allF M (X.map (·.1)) = T) ∧ Hid (Below w9.heap.size w9 wi)) (fun _ _ x _ _ _ _ => lenV x)
    case atStart => exact ⟨L, al, nl, cl, _, [], rfl, rfl, rfl, HL, by simp, hlc, hcl, HTL9, HO0, HX0, HF0, HB0⟩
    clear HO0 HX0 HF0 HB0 HTL9
    case round =>
      obtain ⟨M, a, m, c, v, X, rfl, rfl, rfl, HM, hXm, hmc, hcm2, HTM, HO, HX, HF, HB⟩ := hrel
      by_cases hm0 : 0 < m
      · as_aux_lemma =>
        have hmi : (0 : Int) < (m : Int) := by omega
        have hM0 : M ≠ [] := fun e => by have := HM.out; rw [e] at this; simp at this; omega
        have PC := Lib.hid (PZ.out M a m c wr HM.out hmc hcm2 (HTM.out.below HB.out))
        have HBAD := Lib.hid (fun h : eP M ≠ 0 => (HF.out.symm.trans (allF_bad _ hM0 h) : T = ([], eP M)))
        have HGD := Lib.hid (fun h : eP M = 0 => HF.out.symm.trans (allF_ok _ h))
        have HRG := Lib.hid (fun h : eP M = 0 => (resR_good h).symm)
        have HNG := Lib.hid (fun h : eP M = 0 => resN_good h)
        have HNM := Lib.hid (fun h : eP M = 0 => (eP_zero h).2.2.1)
        have hr32 := resR_root M
        clear hM0 HF
        unfold ParseP at PC
        generalize resR M = R at *
        obtain ⟨nz, hnz⟩ : ∃ nz, Hid (resN M = nz) := ⟨_, Lib.hid rfl⟩
        rw [hnz.out] at PC HNG
        obtain ⟨z, hz⟩ : ∃ z, Hid (eP M = z) := ⟨_, Lib.hid rfl⟩
        rw [hz.out] at PC HBAD HGD HRG HNG HNM
        obtain ⟨k, hk⟩ : ∃ k, Hid (R.ps.length = k) := ⟨_, Lib.hid rfl⟩
        rw [hk.out] at PC
        go_wp2_with fail
        refine PC.out.mono ?_
        rintro e w2 ⟨a2, c2, rfl, hP2, hT2, b2⟩
        have hszr := rc_loaded (.slice a2 k c2) hr32
        have honer := rcA_one R (.slice a2 k c2) rfl
        have HO2 := Lib.hid (own_keep HO.out b2 (Nat.le_refl _))
        have HX2 := Lib.hid (HX.out.below b2)
        have HB2 := Lib.hid (HB.out.trans (b2.mono HB.out.size))
        clear PC HO HX HB b2
        obtain ⟨w3, HW3, HR3, HB3⟩ := made_rc w2
        go_upto_region 13 with (rw [HW3.out]; refine wpList_store_row rfl _ _ _ rfl w2.heap.size (rcA R (.slice a2 k c2)) rfl rfl 26 _ HR3.1 hszr (by rw [rcA_size _ _ HR3.2, rcA_size _ _ hr32]) honer ?_)
        have hX4 : RcAt (w3.setRow w2.heap.size (rcA R (.slice a2 k c2))) w2.heap.size R (.slice a2 k c2) := ⟨setRow_heap _ _ _ (rcA R (.slice a2 k c2)) 26 (0, 0) HR3.1, hr32⟩
        have HR4 := Lib.hid hX4
        have b4 := below_setRow HB3.out (Nat.le_refl _) (rcA R (.slice a2 k c2))
        have HO4 := Lib.hid (own_keep HO2.out b4 (Nat.le_refl _))
        have HX4 := Lib.hid (HX2.out.below b4)
        have HB4 := Lib.hid (HB2.out.trans (b4.mono HB2.out.size))
        have HP4 := Lib.hid (hP2.below b4)
        have HTT4 := Lib.hid (hT2.below b4)
        clear HR3 HB3 HW3 hX4 b4 HO2 HX2 HB2 hP2 hT2
        generalize w3.setRow w2.heap.size (rcA R (.slice a2 k c2)) = w4 at *
        generalize w2.heap.size = gx at *
        by_cases h0 : z = 0
        · have HGD := Lib.hid (HGD.out h0)
          have HRG := Lib.hid (HRG.out h0)
          have HNG := Lib.hid (HNG.out h0)
          have hNM := HNM.out h0
          have e0 : (z != 0) = false := by simpa using h0
          obtain ⟨N, hN⟩ : ∃ N, Hid (lenN (cntP (tB M 0)) = N) := ⟨_, Lib.hid rfl⟩
          have hN1 : 1 ≤ N := by rw [← hN.out]; exact lenN_pos _
          rw [hN.out] at HGD HNG hNM
          rw [HM.out] at hNM
          clear HBAD HNM h0 hnz hz hN
          obtain rfl := HNG.out
          have hNi : (N : Int) ≤ (m : Int) := by omega
          have hNm : N ≤ m := by omega
          clear HNG
          have hcz : (rcA R (.slice a2 k c2)).size = 34 := rcA_size _ _ hr32
          obtain ⟨x, hx⟩ : ∃ x : Rx, Hid (x = (R, a2, c2)) := ⟨_, Lib.hid rfl⟩
          have HXA : Hid (rcA R (.slice a2 k c2) = rxA x) := Lib.hid (by rw [hx.out]; unfold rxA; rw [hk.out])
          have HXL : Hid ((rxA x).toList.length = 1 * 34) := Lib.hid (rxA_len (by rw [hx.out]; exact hr32))
          have hgx := HR4.out.lt
          go_wp2_with (first | (refine wpList_load_row rfl _ _ rfl gx rfl 26 (rcA R (.slice a2 k c2)) (0, 0) _ HR4.out.1 Try.underlying26 rfl hszr ?_) | (refine wpList_build1r rfl 42 26 _ rfl ir (.agg (rcA rz0 nilS)) 34 Try.underlying42 hir hr0 hr1 (by decide) (by decide) (.agg (rcA R (.slice a2 k c2))) rfl hcz ?_) | (at_builtin; refine wpList_append_own _ rfl _ _ 42 rfl w9.heap.size 26 ir (.agg (rcA rz0 nilS)) 34 64 Try.underlying42 hir hr0 hr1 hr2 (rcA_size _ _ rfl) (by decide) _ X.length (rsV X) rfl (HO4.out.alloc _) ⟨w4.heap.size, 0, none⟩ 1 1 (rxA x).toList rfl HXL.out ?c1 (rxA_one x) (by unfold maxLen; omega) (by omega) (by have := HB4.out.size; simp; omega) ?_))
          case c1 => rw [← HXA.out]; exact alloc_row
          intro v5 w5 O9 G9 _
          have HSN := Lib.hid (rsV_snoc X x)
          rw [← HSN.out] at O9
          have b5 : Below w4.heap.size w4 (w4.alloc (.cells (rcA R (.slice a2 k c2)) 26)) := (Below.refl _ _).alloc (Nat.le_refl _) _
          have HX5 : Hid (rsOk w5 (X ++ [x])) := Lib.hid (((HX4.out.below b5).grown (HO4.out.alloc _) G9).snoc (by rw [hx.out]; exact (HP4.out.below b5).grown (HTT4.out.below b5) (HO4.out.alloc _) G9) (by rw [hx.out]; exact (HTT4.out.below b5).grown (HO4.out.alloc _) G9) (by rw [hx.out]; exact hr32))
          have HB5 : Hid (Below w9.heap.size w9 w5) := Lib.hid ((HB4.out.alloc HB4.out.size _).grown G9 (by have := HB4.out.size; simp; omega) (fun q hq => (HO4.out.lt q hq).1))
          have HT5 : Hid (TxtAt w9 (if c = N then a else Option.map (fun x => x.add N) a) (M.drop N)) := Lib.hid (HTM.out.cut (by rw [HM.out]; exact hmc))
          have HF5 : Hid (allF (M.drop N) ((X ++ [x]).map (·.1)) = T) := Lib.hid (by rw [HGD.out, HRG.out, List.map_append, hx.out]; rfl)
          have HM5 : Hid ((M.drop N).length = m - N) := Lib.hid (by rw [List.length_drop, HM.out])
          have HO5 : Hid (w5.ownsRow w9.heap.size 26 34 v5 (X ++ [x]).length (rsV (X ++ [x]))) := Lib.hid (by rw [List.length_append]; exact O9)
          obtain ⟨a5, c5, rfl⟩ := own_at34 O9
          clear O9 G9 b5 HX4 HP4 HTT4 HO4 HB4
          go_wp2_with fail
          go_roundw
          case rel => exact ⟨_, _, _, _, _, X ++ [x], rfl, rfl, rfl, HM5, by rw [List.length_append, List.length_singleton]; omega, by omega, by omega, HT5, HO5, HX5, HF5, HB5⟩
          case measure => show m - N < m; omega
        · have HBAD := Lib.hid (HBAD.out h0)
          have e0 : (z != 0) = true := by simpa using h0
          have hzz : (z == z) = true := by simp
          have hT1 : T.1 = [] := by rw [HBAD.out]
          have hT2 : T.2 = z := by rw [HBAD.out]
          have hX90 : X9.length = 0 := by have := congrArg List.length HX9.out; rw [hT1] at this; simpa using this
          rw [hT2, hX90]
          clear h0 hT1 hT2 HBAD HX9 hX90
          go_wp2_with fail
          refine (PA.out _).mono ?_
          rintro e w6 ⟨rfl, b6⟩
          go_wp2_with fail
          go_ret
          exact ⟨rfl, HB9.out.trans ((HB4.out.trans (b6.mono HB4.out.size)).mono HB9.out.size)⟩
      · as_aux_lemma =>
        have hmi : ¬ (0 : Int) < (m : Int) := by omega
        have hM0 : M = [] := List.length_eq_zero_iff.1 (by rw [HM.out]; omega)
        have HF2 : Hid (T = (X.map (·.1), 0)) := Lib.hid (by rw [← HF.out, hM0, allF_nil])
        have hT1 : T.1 = X.map (·.1) := by rw [HF2.out]
        have hT2 : T.2 = 0 := by rw [HF2.out]
        have HMP : Hid (X9.map (·.1) = X.map (·.1)) := Lib.hid (by rw [HX9.out, hT1])
        rw [hT2, map_len HMP.out]
        have hlen := map_len HMP.out
        have HLE9 : Hid (∀ x ∈ X9, x.1.ps.length ≤ 64) := Lib.hid (fun x hx => HLE.out x.1 (by rw [← HX9.out]; exact List.mem_map_of_mem hx))
        have HLEX : Hid (∀ x ∈ X, x.1.ps.length ≤ 64) := Lib.hid (fun x hx => HLE.out x.1 (by rw [hT1]; exact List.mem_map_of_mem hx))
        obtain ⟨a', c', e9, _, _, _, hc9⟩ := own_rs HO9.out HK9.out
        injection e9 with e91 _ _
        subst e91
        obtain ⟨pw, cw, rfl, _, _, _, hcw⟩ := own_rs HO.out HX.out
        have HC9 := Lib.hid hc9
        have HCW := Lib.hid hcw
        have HLL := Lib.hid hlen
        obtain ⟨n, hn⟩ : ∃ n, Hid (X.length = n) := ⟨_, Lib.hid rfl⟩
        rw [hn.out]
        have hnn : ((n : Int) != (n : Int)) = false := by simp
        clear hM0 hT1 hT2 HF2 HF hlen hcw hc9 HLE
        obtain ⟨wc, hwc⟩ : ∃ wc, Hid (wr = wc) := ⟨_, Lib.hid rfl⟩
        have HB9c := Lib.hid HB.out
        rw [hwc.out] at HX HB HCW HB9c
        clear HO HO9
        go_wp2_with fail
        rw [hwc.out]
        clear hwc
        go_loopw [17] (fun x wi => ∃ i : Nat, x = .int .i64 (i : Int) ∧ i ≤ n ∧ Hid (Below wc.heap.size wc wi)) (fun x _ => n - (intOf x).toNat)
        case atStart => exact ⟨0, rfl, by omega, Lib.hid (Below.refl _ _)⟩
        case round =>
          obtain ⟨i, rfl, hi, HBi⟩ := hrel
          by_cases hin : i < n
          · as_aux_lemma =>
            have hii : (i : Int) < (n : Int) := by omega
            have hiX : i < X.length := by rw [hn.out]; exact hin
            have hi9 : i < X9.length := by rw [HLL.out]; exact hiX
            obtain ⟨ga, rfl, _, hga, hla⟩ := HC9.out i hi9
            obtain ⟨gw, rfl, _, hgw, hlw⟩ := HCW.out i hiX
            have hmap := map_at HMP.out i hi9 hiX
            have q9 := HK9.out _ (List.getElem_mem hi9)
            have qX := HX.out _ (List.getElem_mem hiX)
            have l9 := HLE9.out _ (List.getElem_mem hi9)
            have lX := HLEX.out _ (List.getElem_mem hiX)
            have PS := Lib.hid (fun (w' : World) (h : Below wc.heap.size wc w') => rsame_any X9[i].1 X[i].1 X9[i].2.1 X[i].2.1 X9[i].1.ps.length X9[i].2.2 X[i].1.ps.length X[i].2.2 w' q9.2.2 qX.2.2 rfl rfl (by omega) (by omega) (q9.1.below (HB9c.out.trans (h.mono HB9c.out.size))) (qX.1.below h))
            have hq : rcEq X9[i].1 X[i].1 = true := by rw [hmap]; exact rcEq_self _
            rw [hq] at PS
            have la := hla.below hga HB9c.out
            unfold rxA at la hlw
            have hga2 := Nat.lt_of_lt_of_le hga HB9c.out.size
            generalize rcA X9[i].1 (.slice X9[i].2.1 X9[i].1.ps.length X9[i].2.2) = R9 at *
            generalize rcA X[i].1 (.slice X[i].2.1 X[i].1.ps.length X[i].2.2) = RX at *
            clear q9 qX l9 lX hmap hla hq
            go_upto_region 24 with fail
            refine wp_region_lin_all (S := (fun w' => LoadedM Try.prog 26 w' ga (i * 34) R9.toList ∧ LoadedM Try.prog 26 w' gw (i * 34) RX.toList)) [(0, true), (1, true), (2, true), (3, true), (4, true), (5, true), (6, true), (7, true), (8, false), (9, true)] (by kernel_rfl) (by kernel_rfl) rfl (by kernel_rfl) ?_ (fun hHeld => ?_)
            · (try dsimp only); exact ⟨la.below hga2 HBi.out.drew, hlw.below hgw HBi.out.drew⟩
            have HB14 : Hid (Below wc.heap.size wc wr.drew) := Lib.hid HBi.out.drew
            generalize World.drew wr = w14 at hHeld HB14 ⊢
            refine wpL_calm (o := { dst := some 101, op := Go.Op.move (Go.Operand.tmp 9), type := 42, pos := "law.go:92", after := #[], guard := none }) (v := ?_) rfl (Or.inl ⟨by rfl, ?_⟩) ?_; rotate_left; (focus (intro w hSw; (try dsimp only at hSw); go_simp; (try (with_reducible rfl)); done)); try simp only [Act.put, List.setIfInBounds_toArray, List.set_cons_zero, List.set_cons_succ]
            refine wpL_calm (o := { dst := some 102, op := Go.Op.move (Go.Operand.tmp 17), type := 3, pos := "law.go:92", after := #[], guard := none }) (v := ?_) rfl (Or.inl ⟨by rfl, ?_⟩) ?_; rotate_left; (focus (intro w hSw; (try dsimp only at hSw); go_simp; (try (with_reducible rfl)); done)); try simp only [Act.put, List.setIfInBounds_toArray, List.set_cons_zero, List.set_cons_succ]
            refine wpL_calm (o := { dst := some 103, op := Go.Op.indexAddr 42 (Go.Operand.tmp 101) (Go.Operand.tmp 102), type := 0, pos := "law.go:92", after := #[{ on := 0, ground := Go.Ground.data }, { on := 1, ground := Go.Ground.data }], guard := none }) (v := ?_) rfl (Or.inl ⟨by rfl, ?_⟩) ?_; rotate_left; (focus (intro w hSw; (try dsimp only at hSw); go_simp; (try (with_reducible rfl)); done)); try simp only [Act.put, List.setIfInBounds_toArray, List.set_cons_zero, List.set_cons_succ]
            refine wpL_calm (o := { dst := some 104, op := Go.Op.load 26 (Go.Operand.tmp 103), type := 26, pos := "law.go:92", after := #[{ on := 2, ground := Go.Ground.data }], guard := none }) (v := .agg R9.toList.toArray) rfl (Or.inl ⟨by rfl, fun w' hS => hS.1.op _ rfl rfl⟩) ?_
            try simp only [Act.put, List.setIfInBounds_toArray, List.set_cons_zero, List.set_cons_succ]
            refine wpL_calm (o := { dst := some 105, op := Go.Op.move (Go.Operand.tmp 11), type := 42, pos := "law.go:92", after := #[], guard := none }) (v := ?_) rfl (Or.inl ⟨by rfl, ?_⟩) ?_; rotate_left; (focus (intro w hSw; (try dsimp only at hSw); go_simp; (try (with_reducible rfl)); done)); try simp only [Act.put, List.setIfInBounds_toArray, List.set_cons_zero, List.set_cons_succ]
            refine wpL_calm (o := { dst := some 106, op := Go.Op.move (Go.Operand.tmp 17), type := 3, pos := "law.go:92", after := #[], guard := none }) (v := ?_) rfl (Or.inl ⟨by rfl, ?_⟩) ?_; rotate_left; (focus (intro w hSw; (try dsimp only at hSw); go_simp; (try (with_reducible rfl)); done)); try simp only [Act.put, List.setIfInBounds_toArray, List.set_cons_zero, List.set_cons_succ]
            refine wpL_calm (o := { dst := some 107, op := Go.Op.indexAddr 42 (Go.Operand.tmp 105) (Go.Operand.tmp 106), type := 0, pos := "law.go:92", after := #[{ on := 4, ground := Go.Ground.data }, { on := 5, ground := Go.Ground.data }], guard := none }) (v := ?_) rfl (Or.inl ⟨by rfl, ?_⟩) ?_; rotate_left; (focus (intro w hSw; (try dsimp only at hSw); go_simp; (try (with_reducible rfl)); done)); try simp only [Act.put, List.setIfInBounds_toArray, List.set_cons_zero, List.set_cons_succ]
            refine wpL_calm (o := { dst := some 108, op := Go.Op.load 26 (Go.Operand.tmp 107), type := 26, pos := "law.go:92", after := #[{ on := 6, ground := Go.Ground.data }], guard := none }) (v := .agg RX.toList.toArray) rfl (Or.inl ⟨by rfl, fun w' hS => hS.2.op _ rfl rfl⟩) ?_
            try simp only [Act.put, List.setIfInBounds_toArray, List.set_cons_zero, List.set_cons_succ]
            refine wpL_loud1 (o := { dst := some 109, op := Go.Op.call { callee := Go.Callee.value (Go.Operand.func 18), args := #[Go.Operand.tmp 104, Go.Operand.tmp 108], argTypes := #[26, 26] }, type := 4, pos := "law.go:92", after := #[{ on := 3, ground := Go.Ground.data }, { on := 7, ground := Go.Ground.data }], guard := none }) rfl (fun K hK => ?_)
            (go_simp; go_at_call 18; refine (PS.out _ HB14.out).mono ?_; rintro e w15 ⟨rfl, b15⟩)
            try go_wp2_with fail
            refine hK.out _ _ ?_ (fun hHeld => ?_)
            · (try dsimp only); exact ⟨la.below hga2 (HB14.out.trans (b15.mono HB14.out.size)), hlw.below hgw (HB14.out.trans (b15.mono HB14.out.size))⟩
            clear hK K
            try simp only [Act.put, List.setIfInBounds_toArray, List.set_cons_zero, List.set_cons_succ]
            have HB15 := Lib.hid (HB14.out.trans (b15.mono HB14.out.size)); clear b15
            refine wpL_calm (o := { dst := some 110, op := Go.Op.unOp Go.UnOp.not 4 (Go.Operand.tmp 109), type := 4, pos := "law.go:92", after := #[{ on := 8, ground := Go.Ground.data }], guard := none }) (v := ?_) rfl (Or.inl ⟨by rfl, ?_⟩) ?_; rotate_left; (focus (intro w hSw; (try dsimp only at hSw); go_simp; (try (with_reducible rfl)); done)); try simp only [Act.put, List.setIfInBounds_toArray, List.set_cons_zero, List.set_cons_succ]
            refine wpL_nil ?_
            refine NoPanic.normal ?_
            clear hHeld PS
            go_wp2_with fail
            go_roundw
            case rel => exact ⟨i + 1, by go_num, by omega, HB15⟩
            case measure => simp [intOf]; omega
          · as_aux_lemma =>
            have hii : ¬ (i : Int) < (n : Int) := by omega
            go_wp2_with fail
            refine (PA.out _).mono ?_
            rintro e w6 ⟨rfl, b6⟩
            go_wp2_with fail
            go_ret
            exact ⟨rfl, HB9.out.trans ((HB9c.out.trans ((HBi.out.trans (b6.mono HBi.out.size)).mono HB9c.out.size)).mono HB9.out.size)⟩
  · rw [decide_eq_false hs] at HSH
    clear hs hTL hL
    go_enter Try.func4, Try.ntmps4
    go_wp2_with fail
    refine HSH.out.mono ?_
    rintro e w1 ⟨rfl, rfl⟩
    go_wp2_with fail
    refine (PA.out _).mono ?_
    rintro e w2 ⟨rfl, b2⟩
    go_wp2_with fail
    go_ret
    exact ⟨rfl, b2⟩
section
variable {H : Type} {enc : TypeId × Value → H}
theorem recordParses_walk (vl : Value) (dl : DataW H) (ql : List MemPlace) (w : World)
    (hl : ∃ a len cap, vl = .slice a len cap) (tl : DataW.Trod enc Try.prog w 0 (fun _ => true) true 29 vl dl ql) :
    Calls Try.prog 4 #[vl] w fun e w' => e = .returned (.bool true) ∧ Below w.heap.size w w' := by
  obtain ⟨L, al, nl, cl, rfl, hL, hlc, hcl, hTL⟩ := open_txts (r := .any) (b0 := 0) hl tl
  exact recordParses_any L al nl cl w hL hlc hcl hTL
end
end Go.Proofs.Ythhaadcpenlnkaa
