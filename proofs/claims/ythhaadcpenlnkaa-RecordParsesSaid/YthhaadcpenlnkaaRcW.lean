/- The law RecordBack. -/
import Derived.Test.YthhaadcpenlnkaaRcV
namespace Go.Proofs.Ythhaadcpenlnkaa
open Go.ChangeShapes Go.WideShapes Go.Deep Go.RowKit
set_option linter.unusedVariables false
set_option linter.unusedSimpArgs false
attribute [local irreducible] rcA
theorem Src.txt {w : World} {ao : Option Addr} {L : List ByteArray} {n c : Nat} (h : TxtAt w ao L) (hn : L.length = n) : Src Try.prog 1 29 (.slice ao n c) n (strV L) w := by
  have h1 : ∀ u ∈ strV L, u.oneCell' = true := fun u hu => by
    obtain ⟨_, _, rfl⟩ := List.mem_map.1 hu
    rfl
  cases ao with
  | none =>
    have hl : L = [] := by
      cases L with
      | nil => rfl
      | cons a r => obtain ⟨g, o, h2, _⟩ := h (by simp); cases h2
    subst hl
    have hn0 : n = 0 := hn.symm
    subst hn0
    exact Src.ofNil w Try.underlying29 c
  | some p =>
    refine Src.ofSlice w Try.underlying29 p n c (strV L) (by rw [strV_len, hn, Nat.mul_one]) (fun j u hu => ?_) h1
    have hj : j < L.length := by have := (List.getElem?_eq_some_iff.1 hu).1; rwa [strV_len] at this
    obtain ⟨g, o, h2, _, h3⟩ := h (by omega)
    cases h2
    rw [Addr.add_lit, h3 j hj, ← hu]
    simp [strV, hj]
theorem LoadedM.below {P : Program} {ty : TypeId} {w w' : World} {g off : Nat} {cs : List Value} (h : LoadedM P ty w g off cs) (hg : g < w.heap.size) (hb : Below w.heap.size w w') : LoadedM P ty w' g off cs := by
  obtain ⟨d, h1, h2, h3, h4⟩ := h
  exact ⟨d, fun j u hu => (hb.cell (p := ⟨g, off + j, none⟩) hg).trans (h1 j u hu), h2, h3, h4⟩
theorem nilRow_ownsT (w : World) (base : Nat) (hb : base ≤ w.heap.size) (cs : Array Value) (hcs : cs.size = 0) : (w.alloc (.cells cs 9)).ownsRow base 9 1 (.slice (some ⟨w.heap.size, 0, none⟩) 0 0) 0 [] :=
  ⟨rfl, Or.inr ⟨w.heap.size, 0, cs, rfl, hb, heap_alloc_new _ _, Nat.le_refl _, by decide, by simpa using hcs, by simp⟩⟩
theorem laych_any (R : Rc) (ao : Option Addr) (n cap : Nat) (w : World) (hr : R.root.length = 32) (hn : R.ps.length = n) (hnm : n ≤ 9223372036854775807) (hP : PtAt w ao R.ps) :
    Calls Try.prog 9 #[.agg (rcA R (.slice ao n cap))] w fun e w'' => ∃ (a : Option Addr) (m c : Nat), e = .returned (.tuple #[.slice a m c, .int .i64 (chkE R)]) ∧ (chkE R = 0 → m = lenN n ∧ m ≤ c ∧ c ≤ maxLen ∧ TxtAt w'' a (layL R)) ∧ Below w.heap.size w w'' := by
  by_cases hc : chkE R = 0
  · refine (lay_ok R ao n cap w hr hn hP hc).mono ?_
    rintro e w'' ⟨v, rfl, ol, b⟩
    obtain ⟨a, c, rfl, h1, h2, _, hTl⟩ := own_txt ol
    exact ⟨a, lenN n, c, by rw [hc], fun _ => ⟨rfl, h1, h2, hTl⟩, b⟩
  · refine (lay_no R ao n cap w hr hn hnm hP hc).mono ?_
    rintro e w'' ⟨rfl, b⟩
    exact ⟨none, 0, 0, rfl, fun h => absurd h hc, b⟩
theorem allF_two {A B : Rc} (ha : A.root.length = 32) (ca : chkE A = 0) (hb : B.root.length = 32) (cb : chkE B = 0) : allF (layL A ++ layL B) [] = ([A, B], 0) := by
  have h1 := eP_back ha ca (layL B)
  obtain ⟨r1, _, n1⟩ := recP_back ha ca (layL B)
  have h2 := eP_back hb cb []
  obtain ⟨r2, _, n2⟩ := recP_back hb cb []
  rw [List.append_nil] at h2 r2 n2
  rw [allF_ok _ h1, n1, r1, List.drop_left' (layL_len A), allF_ok _ h2, n2, r2, ← layL_len B, List.drop_length, allF_nil]
  rfl
/-- Three records in boxes (here: two), and what stays. -/
theorem map_two {X : List Rx} {A B : Rc} (h : X.map (·.1) = [A, B]) : ∃ a1 c1 a2 c2, X = [(A, a1, c1), (B, a2, c2)] := by
  rcases X with _ | ⟨⟨A', a1, c1⟩, _ | ⟨⟨B', a2, c2⟩, _ | ⟨x, X⟩⟩⟩
  · simp at h
  · simp at h
  · simp at h
    obtain ⟨rfl, rfl⟩ := h
    exact ⟨_, _, _, _, rfl⟩
  · simp at h
set_option maxRecDepth 100000 in
set_option maxHeartbeats 8000000 in
theorem recordBack_any (A B : Rc) (aa ab : Option Addr) (na ca nb cb : Nat) (L : List ByteArray) (al : Option Addr) (nl cl : Nat) (w : World)
    (hL : L.length = nl) (hlc : nl ≤ cl) (hcl : cl ≤ maxLen) (hTL : TxtAt w al L)
    (ha : A.root.length = 32) (hna : A.ps.length = na) (hma : na ≤ 9223372036854775807) (hTA : PtAt w aa A.ps)
    (hb : B.root.length = 32) (hnb : B.ps.length = nb) (hmb : nb ≤ 9223372036854775807) (hTB : PtAt w ab B.ps) :
    Calls Try.prog 5 #[.agg (rcA A (.slice aa na ca)), .agg (rcA B (.slice ab nb cb)), .slice al nl cl] w fun e w' => e = .returned (.bool true) ∧ Below w.heap.size w w' := by
  have hnlm : nl ≤ 9223372036854775807 := by unfold maxLen at hcl; omega
  obtain ⟨w1, HW, hA, hB, HB⟩ := two_rc w A B (.slice aa na ca) (.slice ab nb cb) ha hb
  have PA := Lib.hid awake13
  have HTL := Lib.hid (hTL.below HB.out)
  have HTA := Lib.hid (hTA.below HB.out)
  have HTB := Lib.hid (hTB.below HB.out)
  have HA := Lib.hid hA
  have HBB := Lib.hid hB
  have la1 := loaded_rc hA
  have lb1 := loaded_rc hB
  have HLA := Lib.hid (light_any A aa na ca w1 ha hna hma HTA.out)
  have HLB := Lib.hid (fun (w' : World) (h : Below w1.heap.size w1 w') => light_any B ab nb cb w' hb hnb hmb (HTB.out.below h))
  have HSH := Lib.hid (fun (w' : World) (h : Below w1.heap.size w1 w') => short_any L al nl cl w' hL hnlm (HTL.out.below h))
  have hszA := rc_loaded (.slice aa na ca) ha
  have hszB := rc_loaded (.slice ab nb cb) hb
  obtain ⟨bs, hbs⟩ : ∃ bs, Hid (decide (shortP L) = bs) := ⟨_, Lib.hid rfl⟩
  obtain ⟨ba, hba⟩ : ∃ ba, Hid (decide (lightP A.ps) = ba) := ⟨_, Lib.hid rfl⟩
  obtain ⟨bb, hbb⟩ : ∃ bb, Hid (decide (lightP B.ps) = bb) := ⟨_, Lib.hid rfl⟩
  rw [hbs.out] at HSH
  rw [hba.out] at HLA
  rw [hbb.out] at HLB
  clear hA hB hTL hTA hTB
  go_enter Try.func5, Try.ntmps5
  go_upto_region 1 with fail
  rw [HW.out]
  clear HW
  go_wp2_with ((with_reducible refine wpList_load_row_i (g := w.heap.size) (cs := rcA A (.slice aa na ca)) 26 _ rfl ?_ ?_ ?_); exact ⟨rfl, rfl⟩; assumption)
  refine HLA.out.mono ?_
  rintro e w2 ⟨rfl, b2⟩
  have HB2 := Lib.hid b2
  have lb2 := loaded_rc (HBB.out.below b2)
  clear b2 la1 lb1 HLA
  cases ba with
  | false =>
    go_wp2_with fail
    refine (PA.out _).mono ?_
    rintro e w4 ⟨rfl, b4⟩
    go_wp2_with fail
    go_ret
    exact ⟨rfl, HB.out.trans ((HB2.out.trans (b4.mono HB2.out.size)).mono HB.out.size)⟩
  | true =>
    go_wp2_with ((with_reducible refine wpList_load_row_i (g := w.heap.size + 1) (cs := rcA B (.slice ab nb cb)) 26 _ rfl ?_ ?_ ?_); exact ⟨rfl, rfl⟩; assumption)
    refine (HLB.out _ HB2.out).mono ?_
    rintro e w3 ⟨rfl, b3⟩
    have HB3 := Lib.hid (HB2.out.trans (b3.mono HB2.out.size))
    clear b3 lb2 HLB HB2
    cases bb with
    | false =>
      go_wp2_with fail
      refine (PA.out _).mono ?_
      rintro e w4 ⟨rfl, b4⟩
      go_wp2_with fail
      go_ret
      exact ⟨rfl, HB.out.trans ((HB3.out.trans (b4.mono HB3.out.size)).mono HB.out.size)⟩
    | true =>
      go_wp2_with fail
      refine (HSH.out _ HB3.out).mono ?_
      rintro e w4 ⟨rfl, rfl⟩
      cases bs with
      | false =>
        go_wp2_with fail
        refine (PA.out _).mono ?_
        rintro e w4 ⟨rfl, b4⟩
        go_wp2_with fail
        go_ret
        exact ⟨rfl, HB.out.trans ((HB3.out.trans (b4.mono HB3.out.size)).mono HB.out.size)⟩
      | true =>
        have hs200 : nl < 200 := by have := (of_decide_eq_true hbs.out).1; rw [hL] at this; exact this
        have la3 := loaded_rc (HA.out.below HB3.out)
        have PLA := Lib.hid (laych_any A aa na ca w3 ha hna hma (HTA.out.below HB3.out))
        have PLB := Lib.hid (fun (w' : World) (h : Below w1.heap.size w1 w') => laych_any B ab nb cb w' hb hnb hmb (HTB.out.below h))
        clear HSH
        obtain ⟨ka, hka⟩ : ∃ ka, Hid (chkE A = ka) := ⟨_, Lib.hid rfl⟩
        obtain ⟨kb, hkb⟩ : ∃ kb, Hid (chkE B = kb) := ⟨_, Lib.hid rfl⟩
        rw [hka.out] at PLA
        rw [hkb.out] at PLB
        go_wp2_with ((with_reducible refine wpList_load_row_i (g := w.heap.size) (cs := rcA A (.slice aa na ca)) 26 _ rfl ?_ ?_ ?_); exact ⟨rfl, rfl⟩; assumption)
        refine PLA.out.mono ?_
        rintro e w4 ⟨l4, m4, c4, rfl, h4, b4⟩
        have H4 := Lib.hid h4
        have HB4 := Lib.hid (HB3.out.trans (b4.mono HB3.out.size))
        have lb4 := loaded_rc (HBB.out.below HB4.out)
        clear b4 la3 PLA h4
        go_wp2_with ((with_reducible refine wpList_load_row_i (g := w.heap.size + 1) (cs := rcA B (.slice ab nb cb)) 26 _ rfl ?_ ?_ ?_); exact ⟨rfl, rfl⟩; assumption)
        refine (PLB.out _ HB4.out).mono ?_
        rintro e w5 ⟨l5, m5, c5, rfl, h5, b5⟩
        have H5 := Lib.hid h5
        have H45 : Hid (ka = 0 → m4 = lenN na ∧ m4 ≤ c4 ∧ c4 ≤ maxLen ∧ TxtAt w5 l4 (layL A)) := Lib.hid (fun h => ⟨(H4.out h).1, (H4.out h).2.1, (H4.out h).2.2.1, (H4.out h).2.2.2.below b5⟩)
        have HB5 := Lib.hid (HB4.out.trans (b5.mono HB4.out.size))
        clear b5 lb4 PLB h5 H4
        by_cases q : ka = 0 ∧ kb = 0
        · obtain ⟨qa, qb⟩ := q
          subst qa qb
          as_aux_lemma =>
            obtain ⟨is, his, hs0, hs1, hs2⟩ := rc_info info_strR
            have hA64 : na ≤ 64 := by have := (chkE_zero hka.out).1; omega
            have hB64 : nb ≤ 64 := by have := (chkE_zero hkb.out).1; omega
            obtain ⟨em4, hc4, hcm4, hT4⟩ := H45.out rfl
            obtain ⟨em5, hc5, hcm5, hT5⟩ := H5.out rfl
            have hm4 : m4 ≤ 67 := by rw [em4]; unfold lenN; omega
            have hm5 : m5 ≤ 67 := by rw [em5]; unfold lenN; omega
            have HT4 := Lib.hid hT4
            have HT5 := Lib.hid hT5
            have HM4 := Lib.hid em4
            have HM5 := Lib.hid em5
            have HL4 : Hid ((layL A).length = m4) := Lib.hid (by rw [layL_len, hna, em4])
            have HL5 : Hid ((layL B).length = m5) := Lib.hid (by rw [layL_len, hnb, em5])
            clear hT4 hT5 em4 em5 H45 H5
            have HNR := Lib.hid (fun (w : World) => nilRow_ownsT w w.heap.size (Nat.le_refl _) #[] rfl)
            have bn : Below w5.heap.size w5 (w5.alloc (.cells #[] 9)) := (Below.refl _ _).alloc (Nat.le_refl _) _
            have HTL5 := Lib.hid (HTL.out.below HB5.out)
            go_wp2_with (at_builtin; refine wpList_append_src _ rfl _ _ 29 29 rfl w5.heap.size 9 is (.string ⟨#[]⟩) Try.underlying29 his hs0 (by rw [hs1]; rfl) _ 0 [] rfl (by rw [hs1]; exact HNR.out w5) (.slice l4 m4 c4) m4 (strV (layL A)) rfl (by rw [hs1]; exact Src.txt (HT4.out.below bn) HL4.out) (by unfold maxLen; omega) (by rw [hs2]; omega) (by simp) ?_)
            intro v6 w6 O6 G6
            try rw [hs1] at O6
            try rw [List.nil_append] at O6
            try rw [Nat.zero_add] at O6
            have b6 : Below w5.heap.size w5 w6 := bn.grown G6 (by simp) (fun q hq => ((HNR.out w5).lt q hq).1)
            obtain ⟨p6, c6, rfl⟩ := own_at0 O6
            have HO6 := Lib.hid O6
            have HB6 := Lib.hid b6
            clear O6 G6 b6 bn
            go_wp2_with (at_builtin; refine wpList_append_src _ rfl _ _ 29 29 rfl w5.heap.size 9 is (.string ⟨#[]⟩) Try.underlying29 his hs0 (by rw [hs1]; rfl) _ m4 (strV (layL A)) rfl (by rw [hs1]; exact HO6.out) (.slice al nl cl) nl (strV L) rfl (by rw [hs1]; exact Src.txt (HTL5.out.below HB6.out) hL) (by unfold maxLen; omega) (by rw [hs2]; omega) HB6.out.size ?_)
            intro v7 w7 O7 G7
            try rw [hs1] at O7
            rw [← strV_app] at O7
            have HB7 : Hid (Below w5.heap.size w5 w7) := Lib.hid (HB6.out.grown G7 HB6.out.size (fun q hq => (HO6.out.lt q hq).1))
            obtain ⟨p7, c7, rfl, h71, h72, h73, hT7⟩ := own_txt O7
            have PP := Lib.hid (parse_any (layL A ++ L) p7 (m4 + nl) c7 w7 h73 h71 h72 hT7)
            have HE0 := Lib.hid (eP_back ha hka.out L)
            have HRB := Lib.hid (recP_back ha hka.out L)
            unfold ParseP at PP
            rw [resR_good HE0.out, resN_good HE0.out, HE0.out, HRB.out.1, HRB.out.2.2, hna, ← HM4.out] at PP
            clear O7 G7 hT7 HO6 HB6 HE0 HRB h73
            go_wp2_with fail
            refine PP.out.mono ?_
            rintro e w8 ⟨a8, c8, rfl, hP8, _, b8⟩
            have hsz8 := rc_loaded (.slice a8 na c8) ha
            have hone8 := rcA_one A (.slice a8 na c8) rfl
            have HB8 := Lib.hid (HB7.out.trans (b8.mono HB7.out.size))
            have HP8 := Lib.hid hP8
            have hzr := zero_rc
            clear b8 PP hP8 HB7
            obtain ⟨w9, HW9, HR9, HB9⟩ := made_rc w8
            go_upto_region 8 with (rw [HW9.out]; refine wpList_store_row rfl _ _ _ rfl w8.heap.size (rcA A (.slice a8 na c8)) rfl rfl 26 _ HR9.1 hsz8 (by rw [rcA_size _ _ HR9.2, rcA_size _ _ ha]) hone8 ?_)
            have hX9 : RcAt (w9.setRow w8.heap.size (rcA A (.slice a8 na c8))) w8.heap.size A (.slice a8 na c8) := ⟨setRow_heap _ _ _ _ 26 (0, 0) HR9.1, ha⟩
            have b10 := below_setRow HB9.out (Nat.le_refl _) (rcA A (.slice a8 na c8))
            have HX10 := Lib.hid hX9
            have HB10 := Lib.hid (HB8.out.trans (b10.mono HB8.out.size))
            have HP10 := Lib.hid (HP8.out.below b10)
            clear HR9 HB9 HW9 hX9 b10 HB8 HP8 hzr
            generalize w9.setRow w8.heap.size (rcA A (.slice a8 na c8)) = w10 at *
            generalize w8.heap.size = gx at *
            as_aux_lemma =>
              have HC4 := Lib.hid (HT4.out.below HB10.out)
              have HC5 := Lib.hid (HT5.out.below HB10.out)
              have bn : Below w10.heap.size w10 (w10.alloc (.cells #[] 9)) := (Below.refl _ _).alloc (Nat.le_refl _) _
              go_wp2_with (at_builtin; refine wpList_append_src _ rfl _ _ 29 29 rfl w10.heap.size 9 is (.string ⟨#[]⟩) Try.underlying29 his hs0 (by rw [hs1]; rfl) _ 0 [] rfl (by rw [hs1]; exact HNR.out w10) (.slice l4 m4 c4) m4 (strV (layL A)) rfl (by rw [hs1]; exact Src.txt (HC4.out.below bn) HL4.out) (by unfold maxLen; omega) (by rw [hs2]; omega) (by simp) ?_)
              intro v11 w11 O11 G11
              try rw [hs1] at O11
              try rw [List.nil_append] at O11
              try rw [Nat.zero_add] at O11
              have b11 : Below w10.heap.size w10 w11 := bn.grown G11 (by simp) (fun q hq => ((HNR.out w10).lt q hq).1)
              obtain ⟨p11, c11, rfl⟩ := own_at0 O11
              have HO11 := Lib.hid O11
              have HB11 := Lib.hid b11
              clear O11 G11 b11 bn
              go_wp2_with (at_builtin; refine wpList_append_src _ rfl _ _ 29 29 rfl w10.heap.size 9 is (.string ⟨#[]⟩) Try.underlying29 his hs0 (by rw [hs1]; rfl) _ m4 (strV (layL A)) rfl (by rw [hs1]; exact HO11.out) (.slice l5 m5 c5) m5 (strV (layL B)) rfl (by rw [hs1]; exact Src.txt (HC5.out.below HB11.out) HL5.out) (by unfold maxLen; omega) (by rw [hs2]; omega) HB11.out.size ?_)
              intro v12 w12 O12 G12
              try rw [hs1] at O12
              rw [← strV_app] at O12
              have b12 : Below w10.heap.size w10 w12 := HB11.out.grown G12 HB11.out.size (fun q hq => (HO11.out.lt q hq).1)
              have HB12 := Lib.hid (HB10.out.trans (b12.mono HB10.out.size))
              have HX12 := Lib.hid (HX10.out.below b12)
              have HP12 := Lib.hid (HP10.out.below b12)
              obtain ⟨p12, c12, rfl, h121, h122, h123, hT12⟩ := own_txt O12
              have PL := Lib.hid (all_any (layL A ++ layL B) p12 (m4 + m5) c12 w12 h123 h121 h122 (by omega) hT12)
              rw [allF_two ha hka.out hb hkb.out] at PL
              unfold AllP at PL
              clear O12 G12 hT12 HO11 HB11 HB10 HX10 HP10 b12 h123 HC4 HC5 HT4 HT5
              go_wp2_with fail
              refine PL.out.mono ?_
              rintro e w13 ⟨v13, X13, rfl, hX13, O13, K13, b13⟩
              obtain ⟨x1, k1, x2, k2, rfl⟩ := map_two hX13
              obtain ⟨p13, c13, rfl, _, _, _, hcells⟩ := own_rs O13 K13
              obtain ⟨g13, rfl, _, hg13, hr0⟩ := hcells 0 (by simp)
              obtain ⟨g13', e13, _, _, hr1⟩ := hcells 1 (by simp)
              have e13 : g13' = g13 := by injection e13 with e13; injection e13 with e13; exact e13.symm
              subst e13
              have q1 := K13 (A, x1, k1) (by simp)
              have q2 := K13 (B, x2, k2) (by simp)
              have r0 : LoadedM Try.prog 26 w13 g13' 0 (rcA A (.slice x1 na k1)).toList := by rw [← hna]; exact hr0
              have r1 : LoadedM Try.prog 26 w13 g13' 34 (rcA B (.slice x2 nb k2)).toList := by rw [← hnb]; exact hr1
              have HQ1 := Lib.hid q1.1
              have HQ2 := Lib.hid q2.1
              have HB13 := Lib.hid (HB12.out.trans (b13.mono HB12.out.size))
              have HX13 := Lib.hid (HX12.out.below b13)
              have HP13 := Lib.hid (HP12.out.below b13)
              clear hcells O13 K13 b13 HB12 HX12 HP12 PL q1 q2 hX13 hr0 hr1
              have HBW := Lib.hid (HB5.out.trans (HB13.out.mono HB5.out.size))
              have hxx : ((m4 : Int) == (m4 : Int)) = true := by simp
              have PS1 := Lib.hid (fun (w' : World) (h : Below w13.heap.size w13 w') => rsame_any A A a8 aa na c8 na ca w' ha ha hna hna hma hma (HP13.out.below h) (HTA.out.below (HBW.out.trans (h.mono HBW.out.size))))
              have PS2 := Lib.hid (fun (w' : World) (h : Below w13.heap.size w13 w') => rsame_any A A x1 aa na k1 na ca w' ha ha hna hna hma hma (by have := HQ1.out.below h; exact this) (HTA.out.below (HBW.out.trans (h.mono HBW.out.size))))
              have PS3 := Lib.hid (fun (w' : World) (h : Below w13.heap.size w13 w') => rsame_any B B x2 ab nb k2 nb cb w' hb hb hnb hnb hmb hmb (by have := HQ2.out.below h; exact this) (HTB.out.below (HBW.out.trans (h.mono HBW.out.size))))
              rw [rcEq_self] at PS1 PS2 PS3
              have HA13 := Lib.hid (HA.out.below HBW.out)
              have HB13' := Lib.hid (HBB.out.below HBW.out)
              have hE2 : (2 : Int) == 2 := rfl
              have KP : ∀ w', Below w13.heap.size w13 w' → RcAt w' gx A (.slice a8 na c8) ∧ RcAt w' w.heap.size A (.slice aa na ca) ∧ RcAt w' (w.heap.size + 1) B (.slice ab nb cb) ∧ LoadedM Try.prog 26 w' g13' 0 (rcA A (.slice x1 na k1)).toList ∧ LoadedM Try.prog 26 w' g13' 34 (rcA B (.slice x2 nb k2)).toList := fun w' h => ⟨HX13.out.below h, HA13.out.below h, HB13'.out.below h, r0.below hg13 h, r1.below hg13 h⟩
              as_aux_lemma =>
                go_upto_region 9 with fail
                refine wp_region_lin_all (S := (fun w' => RcAt w' gx A (.slice a8 na c8) ∧ RcAt w' w.heap.size A (.slice aa na ca) ∧ RcAt w' (w.heap.size + 1) B (.slice ab nb cb) ∧ LoadedM Try.prog 26 w' g13' 0 (rcA A (.slice x1 na k1)).toList ∧ LoadedM Try.prog 26 w' g13' 34 (rcA B (.slice x2 nb k2)).toList)) [(0, false), (1, true), (2, true), (3, true), (4, true), (5, true), (6, true), (7, true), (8, true), (9, true), (10, true), (11, true), (12, true), (13, true), (14, false), (15, true), (16, true), (17, true), (18, true), (19, true), (20, true), (21, true), (22, true), (23, true), (24, true), (25, true), (26, true), (27, true), (28, true), (29, true), (30, false), (31, true), (32, true), (33, true), (34, true), (35, true), (36, true), (37, false), (38, true), (39, true)] (by kernel_rfl) (by kernel_rfl) rfl (by kernel_rfl) ?_ (fun hHeld => ?_)
                · (try dsimp only); exact ⟨HX13.out.below (Below.refl _ _).drew, HA13.out.below (Below.refl _ _).drew, HB13'.out.below (Below.refl _ _).drew, r0.below hg13 (Below.refl _ _).drew, r1.below hg13 (Below.refl _ _).drew⟩
                have HB14 : Hid (Below w13.heap.size w13 w13.drew) := Lib.hid (Below.refl _ _).drew
                generalize World.drew w13 = w14 at hHeld HB14 ⊢
                refine wpL_loud1 (o := { dst := some 66, op := Go.Op.call { callee := Go.Callee.value (Go.Operand.func 8), args := #[], argTypes := #[] }, type := 4, pos := "law.go:111", after := #[], guard := none }) rfl (fun K hK => ?_)
                (go_simp; go_at_call 8; refine (PA.out _).mono ?_; rintro e w15 ⟨rfl, b15⟩)
                try go_wp2_with fail
                refine hK.out _ _ ?_ (fun hHeld => ?_)
                · (try dsimp only); exact KP _ (HB14.out.trans (b15.mono HB14.out.size))
                clear hK K
                try simp only [Act.put, List.setIfInBounds_toArray, List.set_cons_zero, List.set_cons_succ]
                have HB15 := Lib.hid (HB14.out.trans (b15.mono HB14.out.size)); clear b15
                refine wpL_calm (o := { dst := some 67, op := Go.Op.move (Go.Operand.tmp 66), type := 4, pos := "law.go:111", after := #[{ on := 0, ground := Go.Ground.data }, { on := 0, ground := Go.Ground.chain }], guard := none }) (v := ?_) rfl (Or.inl ⟨by rfl, ?_⟩) ?_; rotate_left; (focus (intro w hSw; (try dsimp only at hSw); go_simp; (try (with_reducible rfl)); done)); try simp only [Act.put, List.setIfInBounds_toArray, List.set_cons_zero, List.set_cons_succ]
                refine wpL_calm (o := { dst := some 68, op := Go.Op.move (Go.Operand.tmp 13), type := 30, pos := "law.go:111", after := #[{ on := 1, ground := Go.Ground.guard }], guard := some (1, true) }) (v := ?_) rfl (Or.inl ⟨by rfl, ?_⟩) ?_; rotate_left; (focus (intro w hSw; (try dsimp only at hSw); go_simp; (try (with_reducible rfl)); done)); try simp only [Act.put, List.setIfInBounds_toArray, List.set_cons_zero, List.set_cons_succ]
                refine wpL_calm (o := { dst := some 69, op := Go.Op.binOp Go.BinOp.eql 30 (Go.Operand.tmp 68) (Go.Operand.const (Go.Value.int Go.IntKind.i64 0)) 30, type := 4, pos := "law.go:111", after := #[{ on := 2, ground := Go.Ground.data }, { on := 1, ground := Go.Ground.guard }], guard := some (1, true) }) (v := ?_) rfl (Or.inl ⟨by rfl, ?_⟩) ?_; rotate_left; (focus (intro w hSw; (try dsimp only at hSw); go_simp; (try (with_reducible rfl)); done)); try simp only [Act.put, List.setIfInBounds_toArray, List.set_cons_zero, List.set_cons_succ]
                refine wpL_calm (o := { dst := some 70, op := Go.Op.pick (Go.Operand.tmp 67) (Go.Operand.tmp 69) (Go.Operand.const (Go.Value.bool false)), type := 4, pos := "law.go:111", after := #[{ on := 1, ground := Go.Ground.data }, { on := 3, ground := Go.Ground.data }], guard := none }) (v := ?_) rfl (Or.inl ⟨by rfl, ?_⟩) ?_; rotate_left; (focus (intro w hSw; (try dsimp only at hSw); go_simp; (try (with_reducible rfl)); done)); try simp only [Act.put, List.setIfInBounds_toArray, List.set_cons_zero, List.set_cons_succ]
                refine wpL_calm (o := { dst := some 71, op := Go.Op.move (Go.Operand.tmp 70), type := 4, pos := "law.go:111", after := #[{ on := 4, ground := Go.Ground.data }, { on := 1, ground := Go.Ground.chain }], guard := none }) (v := ?_) rfl (Or.inl ⟨by rfl, ?_⟩) ?_; rotate_left; (focus (intro w hSw; (try dsimp only at hSw); go_simp; (try (with_reducible rfl)); done)); try simp only [Act.put, List.setIfInBounds_toArray, List.set_cons_zero, List.set_cons_succ]
                refine wpL_calm (o := { dst := some 72, op := Go.Op.move (Go.Operand.tmp 12), type := 3, pos := "law.go:111", after := #[{ on := 5, ground := Go.Ground.guard }], guard := some (5, true) }) (v := ?_) rfl (Or.inl ⟨by rfl, ?_⟩) ?_; rotate_left; (focus (intro w hSw; (try dsimp only at hSw); go_simp; (try (with_reducible rfl)); done)); try simp only [Act.put, List.setIfInBounds_toArray, List.set_cons_zero, List.set_cons_succ]
                refine wpL_calm (o := { dst := some 73, op := Go.Op.move (Go.Operand.tmp 7), type := 29, pos := "law.go:111", after := #[{ on := 5, ground := Go.Ground.guard }], guard := some (5, true) }) (v := ?_) rfl (Or.inl ⟨by rfl, ?_⟩) ?_; rotate_left; (focus (intro w hSw; (try dsimp only at hSw); go_simp; (try (with_reducible rfl)); done)); try simp only [Act.put, List.setIfInBounds_toArray, List.set_cons_zero, List.set_cons_succ]
                refine wpL_calm (o := { dst := some 74, op := Go.Op.call { callee := Go.Callee.builtin Go.Builtin.len, args := #[Go.Operand.tmp 73], argTypes := #[29] }, type := 3, pos := "law.go:111", after := #[{ on := 7, ground := Go.Ground.data }, { on := 5, ground := Go.Ground.guard }], guard := some (5, true) }) (v := ?_) rfl (Or.inl ⟨by rfl, ?_⟩) ?_; rotate_left; (focus (intro w hSw; (try dsimp only at hSw); go_simp; (try (with_reducible rfl)); done)); try simp only [Act.put, List.setIfInBounds_toArray, List.set_cons_zero, List.set_cons_succ]
                refine wpL_calm (o := { dst := some 75, op := Go.Op.binOp Go.BinOp.eql 3 (Go.Operand.tmp 72) (Go.Operand.tmp 74) 3, type := 4, pos := "law.go:111", after := #[{ on := 6, ground := Go.Ground.data }, { on := 8, ground := Go.Ground.data }, { on := 5, ground := Go.Ground.guard }], guard := some (5, true) }) (v := ?_) rfl (Or.inl ⟨by rfl, ?_⟩) ?_; rotate_left; (focus (intro w hSw; (try dsimp only at hSw); go_simp; (try (with_reducible rfl)); done)); try simp only [Act.put, List.setIfInBounds_toArray, List.set_cons_zero, List.set_cons_succ]
                refine wpL_calm (o := { dst := some 76, op := Go.Op.pick (Go.Operand.tmp 71) (Go.Operand.tmp 75) (Go.Operand.const (Go.Value.bool false)), type := 4, pos := "law.go:111", after := #[{ on := 5, ground := Go.Ground.data }, { on := 9, ground := Go.Ground.data }], guard := none }) (v := ?_) rfl (Or.inl ⟨by rfl, ?_⟩) ?_; rotate_left; (focus (intro w hSw; (try dsimp only at hSw); go_simp; (try (with_reducible rfl)); done)); try simp only [Act.put, List.setIfInBounds_toArray, List.set_cons_zero, List.set_cons_succ]
                refine wpL_calm (o := { dst := some 77, op := Go.Op.move (Go.Operand.tmp 76), type := 4, pos := "law.go:111", after := #[{ on := 10, ground := Go.Ground.data }, { on := 5, ground := Go.Ground.chain }], guard := none }) (v := ?_) rfl (Or.inl ⟨by rfl, ?_⟩) ?_; rotate_left; (focus (intro w hSw; (try dsimp only at hSw); go_simp; (try (with_reducible rfl)); done)); try simp only [Act.put, List.setIfInBounds_toArray, List.set_cons_zero, List.set_cons_succ]
                refine wpL_calm (o := { dst := some 78, op := Go.Op.load 26 (Go.Operand.tmp 11), type := 26, pos := "law.go:111", after := #[{ on := 11, ground := Go.Ground.guard }], guard := some (11, true) }) rfl (yieldsIf_load_mid (by rfl) _ _ rfl gx 0 rfl (rcA A (.slice a8 na c8)).toList _ (fun _ h => rc_cellsA h.1) Try.underlying26 rfl (by rw [Array.length_toList]; exact hsz8)) ?_
                try simp only [Act.put, List.setIfInBounds_toArray, List.set_cons_zero, List.set_cons_succ]
                refine wpL_calm (o := { dst := some 79, op := Go.Op.load 26 (Go.Operand.tmp 3), type := 26, pos := "law.go:111", after := #[{ on := 11, ground := Go.Ground.guard }], guard := some (11, true) }) rfl (yieldsIf_load_mid (by rfl) _ _ rfl w.heap.size 0 rfl (rcA A (.slice aa na ca)).toList _ (fun _ h => rc_cellsA h.2.1) Try.underlying26 rfl (by rw [Array.length_toList]; exact hszA)) ?_
                try simp only [Act.put, List.setIfInBounds_toArray, List.set_cons_zero, List.set_cons_succ]
                refine wpL_loud1 (o := { dst := some 80, op := Go.Op.call { callee := Go.Callee.value (Go.Operand.func 18), args := #[Go.Operand.tmp 78, Go.Operand.tmp 79], argTypes := #[26, 26] }, type := 4, pos := "law.go:111", after := #[{ on := 12, ground := Go.Ground.data }, { on := 13, ground := Go.Ground.data }, { on := 11, ground := Go.Ground.chain }, { on := 11, ground := Go.Ground.guard }], guard := some (11, true) }) rfl (fun K hK => ?_)
                (go_simp; go_at_call 18; refine (PS1.out _ HB15.out).mono ?_; rintro e w16 ⟨rfl, b16⟩)
                try go_wp2_with fail
                refine hK.out _ _ ?_ (fun hHeld => ?_)
                · (try dsimp only); exact KP _ (HB15.out.trans (b16.mono HB15.out.size))
                clear hK K
                try simp only [Act.put, List.setIfInBounds_toArray, List.set_cons_zero, List.set_cons_succ]
                have HB16 := Lib.hid (HB15.out.trans (b16.mono HB15.out.size)); clear b16
                refine wpL_calm (o := { dst := some 81, op := Go.Op.pick (Go.Operand.tmp 77) (Go.Operand.tmp 80) (Go.Operand.const (Go.Value.bool false)), type := 4, pos := "law.go:111", after := #[{ on := 11, ground := Go.Ground.data }, { on := 14, ground := Go.Ground.data }], guard := none }) (v := ?_) rfl (Or.inl ⟨by rfl, ?_⟩) ?_; rotate_left; (focus (intro w hSw; (try dsimp only at hSw); go_simp; (try (with_reducible rfl)); done)); try simp only [Act.put, List.setIfInBounds_toArray, List.set_cons_zero, List.set_cons_succ]
                refine wpL_calm (o := { dst := some 82, op := Go.Op.move (Go.Operand.tmp 81), type := 4, pos := "law.go:111", after := #[{ on := 15, ground := Go.Ground.data }, { on := 14, ground := Go.Ground.chain }], guard := none }) (v := ?_) rfl (Or.inl ⟨by rfl, ?_⟩) ?_; rotate_left; (focus (intro w hSw; (try dsimp only at hSw); go_simp; (try (with_reducible rfl)); done)); try simp only [Act.put, List.setIfInBounds_toArray, List.set_cons_zero, List.set_cons_succ]
                refine wpL_calm (o := { dst := some 83, op := Go.Op.move (Go.Operand.tmp 15), type := 30, pos := "law.go:111", after := #[{ on := 16, ground := Go.Ground.guard }], guard := some (16, true) }) (v := ?_) rfl (Or.inl ⟨by rfl, ?_⟩) ?_; rotate_left; (focus (intro w hSw; (try dsimp only at hSw); go_simp; (try (with_reducible rfl)); done)); try simp only [Act.put, List.setIfInBounds_toArray, List.set_cons_zero, List.set_cons_succ]
                refine wpL_calm (o := { dst := some 84, op := Go.Op.binOp Go.BinOp.eql 30 (Go.Operand.tmp 83) (Go.Operand.const (Go.Value.int Go.IntKind.i64 0)) 30, type := 4, pos := "law.go:111", after := #[{ on := 17, ground := Go.Ground.data }, { on := 16, ground := Go.Ground.guard }], guard := some (16, true) }) (v := ?_) rfl (Or.inl ⟨by rfl, ?_⟩) ?_; rotate_left; (focus (intro w hSw; (try dsimp only at hSw); go_simp; (try (with_reducible rfl)); done)); try simp only [Act.put, List.setIfInBounds_toArray, List.set_cons_zero, List.set_cons_succ]
                refine wpL_calm (o := { dst := some 85, op := Go.Op.pick (Go.Operand.tmp 82) (Go.Operand.tmp 84) (Go.Operand.const (Go.Value.bool false)), type := 4, pos := "law.go:111", after := #[{ on := 16, ground := Go.Ground.data }, { on := 18, ground := Go.Ground.data }], guard := none }) (v := ?_) rfl (Or.inl ⟨by rfl, ?_⟩) ?_; rotate_left; (focus (intro w hSw; (try dsimp only at hSw); go_simp; (try (with_reducible rfl)); done)); try simp only [Act.put, List.setIfInBounds_toArray, List.set_cons_zero, List.set_cons_succ]
                refine wpL_calm (o := { dst := some 86, op := Go.Op.move (Go.Operand.tmp 85), type := 4, pos := "law.go:111", after := #[{ on := 19, ground := Go.Ground.data }, { on := 16, ground := Go.Ground.chain }], guard := none }) (v := ?_) rfl (Or.inl ⟨by rfl, ?_⟩) ?_; rotate_left; (focus (intro w hSw; (try dsimp only at hSw); go_simp; (try (with_reducible rfl)); done)); try simp only [Act.put, List.setIfInBounds_toArray, List.set_cons_zero, List.set_cons_succ]
                refine wpL_calm (o := { dst := some 87, op := Go.Op.move (Go.Operand.tmp 14), type := 42, pos := "law.go:111", after := #[{ on := 20, ground := Go.Ground.guard }], guard := some (20, true) }) (v := ?_) rfl (Or.inl ⟨by rfl, ?_⟩) ?_; rotate_left; (focus (intro w hSw; (try dsimp only at hSw); go_simp; (try (with_reducible rfl)); done)); try simp only [Act.put, List.setIfInBounds_toArray, List.set_cons_zero, List.set_cons_succ]
                refine wpL_calm (o := { dst := some 88, op := Go.Op.call { callee := Go.Callee.builtin Go.Builtin.len, args := #[Go.Operand.tmp 87], argTypes := #[42] }, type := 3, pos := "law.go:111", after := #[{ on := 21, ground := Go.Ground.data }, { on := 20, ground := Go.Ground.guard }], guard := some (20, true) }) (v := ?_) rfl (Or.inl ⟨by rfl, ?_⟩) ?_; rotate_left; (focus (intro w hSw; (try dsimp only at hSw); go_simp; (try (with_reducible rfl)); done)); try simp only [Act.put, List.setIfInBounds_toArray, List.set_cons_zero, List.set_cons_succ]
                refine wpL_calm (o := { dst := some 89, op := Go.Op.binOp Go.BinOp.eql 3 (Go.Operand.tmp 88) (Go.Operand.const (Go.Value.int Go.IntKind.i64 2)) 3, type := 4, pos := "law.go:111", after := #[{ on := 22, ground := Go.Ground.data }, { on := 20, ground := Go.Ground.guard }], guard := some (20, true) }) (v := ?_) rfl (Or.inl ⟨by rfl, ?_⟩) ?_; rotate_left; (focus (intro w hSw; (try dsimp only at hSw); go_simp; (try (with_reducible rfl)); done)); try simp only [Act.put, List.setIfInBounds_toArray, List.set_cons_zero, List.set_cons_succ]
                refine wpL_calm (o := { dst := some 90, op := Go.Op.pick (Go.Operand.tmp 86) (Go.Operand.tmp 89) (Go.Operand.const (Go.Value.bool false)), type := 4, pos := "law.go:111", after := #[{ on := 20, ground := Go.Ground.data }, { on := 23, ground := Go.Ground.data }], guard := none }) (v := ?_) rfl (Or.inl ⟨by rfl, ?_⟩) ?_; rotate_left; (focus (intro w hSw; (try dsimp only at hSw); go_simp; (try (with_reducible rfl)); done)); try simp only [Act.put, List.setIfInBounds_toArray, List.set_cons_zero, List.set_cons_succ]
                refine wpL_calm (o := { dst := some 91, op := Go.Op.move (Go.Operand.tmp 90), type := 4, pos := "law.go:111", after := #[{ on := 24, ground := Go.Ground.data }, { on := 20, ground := Go.Ground.chain }], guard := none }) (v := ?_) rfl (Or.inl ⟨by rfl, ?_⟩) ?_; rotate_left; (focus (intro w hSw; (try dsimp only at hSw); go_simp; (try (with_reducible rfl)); done)); try simp only [Act.put, List.setIfInBounds_toArray, List.set_cons_zero, List.set_cons_succ]
                refine wpL_calm (o := { dst := some 92, op := Go.Op.move (Go.Operand.tmp 14), type := 42, pos := "law.go:111", after := #[{ on := 25, ground := Go.Ground.guard }], guard := some (25, true) }) (v := ?_) rfl (Or.inl ⟨by rfl, ?_⟩) ?_; rotate_left; (focus (intro w hSw; (try dsimp only at hSw); go_simp; (try (with_reducible rfl)); done)); try simp only [Act.put, List.setIfInBounds_toArray, List.set_cons_zero, List.set_cons_succ]
                refine wpL_calm (o := { dst := some 93, op := Go.Op.indexAddr 42 (Go.Operand.tmp 92) (Go.Operand.const (Go.Value.int Go.IntKind.i64 0)), type := 0, pos := "law.go:111", after := #[{ on := 26, ground := Go.Ground.data }, { on := 25, ground := Go.Ground.guard }], guard := some (25, true) }) (v := ?_) rfl (Or.inl ⟨by rfl, ?_⟩) ?_; rotate_left; (focus (intro w hSw; (try dsimp only at hSw); go_simp; (try (with_reducible rfl)); done)); try simp only [Act.put, List.setIfInBounds_toArray, List.set_cons_zero, List.set_cons_succ]
                refine wpL_calm (o := { dst := some 94, op := Go.Op.load 26 (Go.Operand.tmp 93), type := 26, pos := "law.go:111", after := #[{ on := 27, ground := Go.Ground.data }, { on := 25, ground := Go.Ground.guard }], guard := some (25, true) }) (v := .agg (rcA A (.slice x1 na k1)).toList.toArray) rfl (Or.inl ⟨by rfl, fun w' hS => hS.2.2.2.1.op _ rfl rfl⟩) ?_
                try simp only [Act.put, List.setIfInBounds_toArray, List.set_cons_zero, List.set_cons_succ]
                refine wpL_calm (o := { dst := some 95, op := Go.Op.load 26 (Go.Operand.tmp 3), type := 26, pos := "law.go:111", after := #[{ on := 25, ground := Go.Ground.guard }], guard := some (25, true) }) rfl (yieldsIf_load_mid (by rfl) _ _ rfl w.heap.size 0 rfl (rcA A (.slice aa na ca)).toList _ (fun _ h => rc_cellsA h.2.1) Try.underlying26 rfl (by rw [Array.length_toList]; exact hszA)) ?_
                try simp only [Act.put, List.setIfInBounds_toArray, List.set_cons_zero, List.set_cons_succ]
                refine wpL_loud1 (o := { dst := some 96, op := Go.Op.call { callee := Go.Callee.value (Go.Operand.func 18), args := #[Go.Operand.tmp 94, Go.Operand.tmp 95], argTypes := #[26, 26] }, type := 4, pos := "law.go:111", after := #[{ on := 28, ground := Go.Ground.data }, { on := 29, ground := Go.Ground.data }, { on := 25, ground := Go.Ground.chain }, { on := 25, ground := Go.Ground.guard }], guard := some (25, true) }) rfl (fun K hK => ?_)
                (go_simp; go_at_call 18; refine (PS2.out _ HB16.out).mono ?_; rintro e w17 ⟨rfl, b17⟩)
                try go_wp2_with fail
                refine hK.out _ _ ?_ (fun hHeld => ?_)
                · (try dsimp only); exact KP _ (HB16.out.trans (b17.mono HB16.out.size))
                clear hK K
                try simp only [Act.put, List.setIfInBounds_toArray, List.set_cons_zero, List.set_cons_succ]
                have HB17 := Lib.hid (HB16.out.trans (b17.mono HB16.out.size)); clear b17
                refine wpL_calm (o := { dst := some 97, op := Go.Op.pick (Go.Operand.tmp 91) (Go.Operand.tmp 96) (Go.Operand.const (Go.Value.bool false)), type := 4, pos := "law.go:111", after := #[{ on := 25, ground := Go.Ground.data }, { on := 30, ground := Go.Ground.data }], guard := none }) (v := ?_) rfl (Or.inl ⟨by rfl, ?_⟩) ?_; rotate_left; (focus (intro w hSw; (try dsimp only at hSw); go_simp; (try (with_reducible rfl)); done)); try simp only [Act.put, List.setIfInBounds_toArray, List.set_cons_zero, List.set_cons_succ]
                refine wpL_calm (o := { dst := some 98, op := Go.Op.move (Go.Operand.tmp 97), type := 4, pos := "law.go:111", after := #[{ on := 31, ground := Go.Ground.data }, { on := 30, ground := Go.Ground.chain }], guard := none }) (v := ?_) rfl (Or.inl ⟨by rfl, ?_⟩) ?_; rotate_left; (focus (intro w hSw; (try dsimp only at hSw); go_simp; (try (with_reducible rfl)); done)); try simp only [Act.put, List.setIfInBounds_toArray, List.set_cons_zero, List.set_cons_succ]
                refine wpL_calm (o := { dst := some 99, op := Go.Op.move (Go.Operand.tmp 14), type := 42, pos := "law.go:111", after := #[{ on := 32, ground := Go.Ground.guard }], guard := some (32, true) }) (v := ?_) rfl (Or.inl ⟨by rfl, ?_⟩) ?_; rotate_left; (focus (intro w hSw; (try dsimp only at hSw); go_simp; (try (with_reducible rfl)); done)); try simp only [Act.put, List.setIfInBounds_toArray, List.set_cons_zero, List.set_cons_succ]
                refine wpL_calm (o := { dst := some 100, op := Go.Op.indexAddr 42 (Go.Operand.tmp 99) (Go.Operand.const (Go.Value.int Go.IntKind.i64 1)), type := 0, pos := "law.go:111", after := #[{ on := 33, ground := Go.Ground.data }, { on := 32, ground := Go.Ground.guard }], guard := some (32, true) }) (v := ?_) rfl (Or.inl ⟨by rfl, ?_⟩) ?_; rotate_left; (focus (intro w hSw; (try dsimp only at hSw); go_simp; (try (with_reducible rfl)); done)); try simp only [Act.put, List.setIfInBounds_toArray, List.set_cons_zero, List.set_cons_succ]
                refine wpL_calm (o := { dst := some 101, op := Go.Op.load 26 (Go.Operand.tmp 100), type := 26, pos := "law.go:111", after := #[{ on := 34, ground := Go.Ground.data }, { on := 32, ground := Go.Ground.guard }], guard := some (32, true) }) (v := .agg (rcA B (.slice x2 nb k2)).toList.toArray) rfl (Or.inl ⟨by rfl, fun w' hS => hS.2.2.2.2.op _ rfl rfl⟩) ?_
                try simp only [Act.put, List.setIfInBounds_toArray, List.set_cons_zero, List.set_cons_succ]
                refine wpL_calm (o := { dst := some 102, op := Go.Op.load 26 (Go.Operand.tmp 4), type := 26, pos := "law.go:111", after := #[{ on := 32, ground := Go.Ground.guard }], guard := some (32, true) }) rfl (yieldsIf_load_mid (by rfl) _ _ rfl (w.heap.size + 1) 0 rfl (rcA B (.slice ab nb cb)).toList _ (fun _ h => rc_cellsA h.2.2.1) Try.underlying26 rfl (by rw [Array.length_toList]; exact hszB)) ?_
                try simp only [Act.put, List.setIfInBounds_toArray, List.set_cons_zero, List.set_cons_succ]
                refine wpL_loud1 (o := { dst := some 103, op := Go.Op.call { callee := Go.Callee.value (Go.Operand.func 18), args := #[Go.Operand.tmp 101, Go.Operand.tmp 102], argTypes := #[26, 26] }, type := 4, pos := "law.go:111", after := #[{ on := 35, ground := Go.Ground.data }, { on := 36, ground := Go.Ground.data }, { on := 32, ground := Go.Ground.chain }, { on := 32, ground := Go.Ground.guard }], guard := some (32, true) }) rfl (fun K hK => ?_)
                (go_simp; go_at_call 18; refine (PS3.out _ HB17.out).mono ?_; rintro e w18 ⟨rfl, b18⟩)
                try go_wp2_with fail
                refine hK.out _ _ ?_ (fun hHeld => ?_)
                · (try dsimp only); exact KP _ (HB17.out.trans (b18.mono HB17.out.size))
                clear hK K
                try simp only [Act.put, List.setIfInBounds_toArray, List.set_cons_zero, List.set_cons_succ]
                have HB18 := Lib.hid (HB17.out.trans (b18.mono HB17.out.size)); clear b18
                refine wpL_calm (o := { dst := some 104, op := Go.Op.pick (Go.Operand.tmp 98) (Go.Operand.tmp 103) (Go.Operand.const (Go.Value.bool false)), type := 4, pos := "law.go:111", after := #[{ on := 32, ground := Go.Ground.data }, { on := 37, ground := Go.Ground.data }], guard := none }) (v := ?_) rfl (Or.inl ⟨by rfl, ?_⟩) ?_; rotate_left; (focus (intro w hSw; (try dsimp only at hSw); go_simp; (try (with_reducible rfl)); done)); try simp only [Act.put, List.setIfInBounds_toArray, List.set_cons_zero, List.set_cons_succ]
                refine wpL_calm (o := { dst := some 6, op := Go.Op.assign (Go.Operand.tmp 104), type := 4, pos := "law.go:111", after := #[{ on := 38, ground := Go.Ground.data }, { on := 37, ground := Go.Ground.chain }, { on := 0, ground := Go.Ground.phase }, { on := 1, ground := Go.Ground.phase }, { on := 2, ground := Go.Ground.phase }, { on := 3, ground := Go.Ground.phase }, { on := 4, ground := Go.Ground.phase }, { on := 5, ground := Go.Ground.phase }, { on := 6, ground := Go.Ground.phase }, { on := 7, ground := Go.Ground.phase }, { on := 8, ground := Go.Ground.phase }, { on := 9, ground := Go.Ground.phase }, { on := 10, ground := Go.Ground.phase }, { on := 11, ground := Go.Ground.phase }, { on := 12, ground := Go.Ground.phase }, { on := 13, ground := Go.Ground.phase }, { on := 14, ground := Go.Ground.phase }, { on := 15, ground := Go.Ground.phase }, { on := 16, ground := Go.Ground.phase }, { on := 17, ground := Go.Ground.phase }, { on := 18, ground := Go.Ground.phase }, { on := 19, ground := Go.Ground.phase }, { on := 20, ground := Go.Ground.phase }, { on := 21, ground := Go.Ground.phase }, { on := 22, ground := Go.Ground.phase }, { on := 23, ground := Go.Ground.phase }, { on := 24, ground := Go.Ground.phase }, { on := 25, ground := Go.Ground.phase }, { on := 26, ground := Go.Ground.phase }, { on := 27, ground := Go.Ground.phase }, { on := 28, ground := Go.Ground.phase }, { on := 29, ground := Go.Ground.phase }, { on := 30, ground := Go.Ground.phase }, { on := 31, ground := Go.Ground.phase }, { on := 32, ground := Go.Ground.phase }, { on := 33, ground := Go.Ground.phase }, { on := 34, ground := Go.Ground.phase }, { on := 35, ground := Go.Ground.phase }, { on := 36, ground := Go.Ground.phase }, { on := 37, ground := Go.Ground.phase }, { on := 38, ground := Go.Ground.phase }], guard := none }) (v := ?_) rfl (Or.inl ⟨by rfl, ?_⟩) ?_; rotate_left; (focus (intro w hSw; (try dsimp only at hSw); go_simp; (try (with_reducible rfl)); done)); try simp only [Act.put, List.setIfInBounds_toArray, List.set_cons_zero, List.set_cons_succ]
                refine wpL_nil ?_
                refine NoPanic.normal ?_
                clear hHeld
                go_wp2_with fail
                go_ret
                exact ⟨rfl, HB.out.trans ((HBW.out.trans (HB18.out.mono HBW.out.size)).mono HB.out.size)⟩
        · rcases (show ((ka != 0) = true) ∨ (((ka != 0) = false) ∧ ((kb != 0) = true)) from by
            by_cases e : ka = 0
            · exact Or.inr ⟨by simpa using e, by simp; intro h; exact q ⟨e, h⟩⟩
            · exact Or.inl (by simpa using e)) with h1 | ⟨h1, h2⟩
          · clear q
            go_wp2_with fail
            refine (PA.out _).mono ?_
            rintro e w6 ⟨rfl, b6⟩
            go_wp2_with fail
            go_ret
            exact ⟨rfl, HB.out.trans ((HB5.out.trans (b6.mono HB5.out.size)).mono HB.out.size)⟩
          · clear q
            go_wp2_with fail
            refine (PA.out _).mono ?_
            rintro e w6 ⟨rfl, b6⟩
            go_wp2_with fail
            go_ret
            exact ⟨rfl, HB.out.trans ((HB5.out.trans (b6.mono HB5.out.size)).mono HB.out.size)⟩
section
variable {H : Type} {enc : TypeId × Value → H}
theorem recordBack_walk {r : Reach} {b0 : Nat} (va : Value) (da : DataW H) (qa : List MemPlace) (vb : Value) (db : DataW H) (qb : List MemPlace) (vl : Value) (dl : DataW H) (ql : List MemPlace) (w : World)
    (ha : Value.okWide Try.prog w r b0 26 va) (ta : DataW.Trod enc Try.prog w 0 (fun _ => true) true 26 va da qa)
    (hb : Value.okWide Try.prog w r b0 26 vb) (tb : DataW.Trod enc Try.prog w 0 (fun _ => true) true 26 vb db qb)
    (hl : ∃ a len cap, vl = .slice a len cap) (tl : DataW.Trod enc Try.prog w 0 (fun _ => true) true 29 vl dl ql) :
    Calls Try.prog 5 #[va, vb, vl] w fun e w' => e = .returned (.bool true) ∧ Below w.heap.size w w' := by
  obtain ⟨L, al, nl, cl, rfl, hL, hlc, hcl, hTL⟩ := open_txts (r := r) (b0 := b0) hl tl
  obtain ⟨A, aa, na, ca, rfl, ra, hna, hca, hma, hTA⟩ := open_rec ha ta
  obtain ⟨B, ab, nb, cb, rfl, rb, hnb, hcb, hmb, hTB⟩ := open_rec hb tb
  exact recordBack_any A B aa ab na ca nb cb L al nl cl w hL hlc hcl hTL ra hna (by unfold maxLen at hma; omega) hTA rb hnb (by unfold maxLen at hmb; omega) hTB
end
end Go.Proofs.Ythhaadcpenlnkaa
