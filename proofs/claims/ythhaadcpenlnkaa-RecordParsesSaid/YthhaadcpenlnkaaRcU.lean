/- The law RecordLays. -/
import Derived.Test.YthhaadcpenlnkaaRcT
namespace Go.Proofs.Ythhaadcpenlnkaa
open Go.ChangeShapes Go.WideShapes Go.Deep Go.RowKit
set_option linter.unusedVariables false
set_option linter.unusedSimpArgs false
theorem loaded_rc {w : World} {g : Nat} {R : Rc} {v : Value} (h : RcAt w g R v) : Loaded Try.prog 26 w g (rcA R v) := ⟨_, _, _, h.1, Try.underlying26, rc_loaded v h.2⟩
theorem chkE_two {R : Rc} (h : R.ps.length ≤ 64) (h2 : ¬ rightP R) : chkE R = 2 := by
  unfold chkE
  rw [if_neg (by omega)]
  by_cases hs : R.seq < 0 ∨ 4294967295 < R.seq
  · rw [if_pos hs]
  · rw [if_neg hs, if_neg (fun h => h2 ⟨by omega, h⟩)]
attribute [local irreducible] rcA
set_option maxRecDepth 100000 in
set_option maxHeartbeats 8000000 in
theorem recordLays_any (R : Rc) (ao : Option Addr) (n cap : Nat) (p : Int) (w : World) (hr : R.root.length = 32) (hn : R.ps.length = n) (hnm : n ≤ 9223372036854775807) (hT : PtAt w ao R.ps) (hp1 : -9223372036854775808 ≤ p) (hp2 : p ≤ 9223372036854775807) :
    Calls Try.prog 3 #[.agg (rcA R (.slice ao n cap)), .int .i64 p] w fun e w' => e = .returned (.bool true) ∧ Below w.heap.size w w' := by
  obtain ⟨w1, HW, hR, HB⟩ := box_rc w R (.slice ao n cap) hr
  have PA := Lib.hid awake13
  have PT1 := hT.below HB.out
  have HP1 := Lib.hid PT1
  have HL := Lib.hid (light_any R ao n cap w1 hr hn hnm PT1)
  have hlt := hR.lt
  have L1 := loaded_rc hR
  have HR1 := Lib.hid hR
  clear hR PT1 hT
  by_cases hl : lightP R.ps
  · rw [decide_eq_true hl] at HL
    have HCK := Lib.hid (fun (w' : World) (hb : Below w1.heap.size w1 w') => check_any R ao n cap w' hr hn hnm (HP1.out.below hb))
    have HLN := Lib.hid (fun w => length_any p w)
    have HLR := Lib.hid (fun w => length_any (n : Int) w)
    have HRT := Lib.hid (fun (w' : World) (hb : Below w1.heap.size w1 w') => right_any R ao n cap w' hr hn hnm (HP1.out.below hb))
    have HNL : n < 100 := by have := hl.1; rw [hn] at this; exact this
    clear hl
    obtain ⟨lv, hlv⟩ : ∃ lv, Hid (lengthV p = lv) := ⟨_, Lib.hid rfl⟩
    rw [hlv.out] at HLN
    have HLA : Hid (∀ w', Below w1.heap.size w1 w' → Calls Try.prog 9 #[.agg (rcA R (.slice ao n cap))] w' fun e w'' => ∃ (a : Option Addr) (m c : Nat), e = .returned (.tuple #[.slice a m c, .int .i64 (chkE R)]) ∧ (chkE R ≠ 0 → m = 0) ∧ (chkE R = 0 → m = lenN n ∧ TxtAt w'' a (layL R)) ∧ Below w'.heap.size w' w'') := Lib.hid (fun w' hb => by
      by_cases hc : chkE R = 0
      · refine (lay_ok R ao n cap w' hr hn (HP1.out.below hb) hc).mono ?_
        rintro e w'' ⟨v, rfl, ol, b⟩
        obtain ⟨a, c, rfl, _, _, _, hTl⟩ := own_txt ol
        exact ⟨a, lenN n, c, by rw [hc], fun h => absurd hc h, fun _ => ⟨rfl, hTl⟩, b⟩
      · refine (lay_no R ao n cap w' hr hn hnm (HP1.out.below hb) hc).mono ?_
        rintro e w'' ⟨rfl, b⟩
        exact ⟨none, 0, 0, rfl, fun _ => rfl, fun h => absurd h hc, b⟩)
    obtain ⟨ck, hck⟩ : ∃ ck, Hid (chkE R = ck) := ⟨_, Lib.hid rfl⟩
    rw [hck.out] at HLA HCK
    go_enter Try.func3, Try.ntmps3
    go_upto_region 1 with fail
    rw [HW.out]
    clear HW
    go_wp2_with ((with_reducible refine wpList_load_row_i (g := w.heap.size) (cs := rcA R (.slice ao n cap)) 26 _ rfl ?_ ?_ ?_); exact ⟨rfl, rfl⟩; assumption)
    refine HL.out.mono ?_
    rintro e w2 ⟨rfl, b2⟩
    have HB2 := Lib.hid b2
    have L2 := loaded_rc (HR1.out.below b2)
    clear b2 L1 HL
    go_wp2_with ((with_reducible refine wpList_load_row_i (g := w.heap.size) (cs := rcA R (.slice ao n cap)) 26 _ rfl ?_ ?_ ?_); exact ⟨rfl, rfl⟩; assumption)
    refine (HLA.out _ HB2.out).mono ?_
    rintro e w3 ⟨la, lm, lc, rfl, hm0, hmk, b3⟩
    have HM0 := Lib.hid hm0
    have HMK := Lib.hid hmk
    have HB3 := Lib.hid (HB2.out.trans (b3.mono HB2.out.size))
    have L3 := loaded_rc (HR1.out.below HB3.out)
    clear b3 L2 hm0 hmk HLA
    go_wp2_with ((with_reducible refine wpList_load_row_i (g := w.heap.size) (cs := rcA R (.slice ao n cap)) 26 _ rfl ?_ ?_ ?_); exact ⟨rfl, rfl⟩; assumption)
    refine (HCK.out _ HB3.out).mono ?_
    rintro e w4 ⟨rfl, b4⟩
    have HMK4 : Hid (ck = 0 → lm = lenN n ∧ TxtAt w4 la (layL R)) := Lib.hid (fun h => ⟨(HMK.out h).1, (HMK.out h).2.below b4⟩)
    have HB4 := Lib.hid (HB3.out.trans (b4.mono HB3.out.size))
    have L4 := loaded_rc (HR1.out.below HB4.out)
    have c33 := (HR1.out.below HB4.out).ps
    clear b4 L3 HMK HB2 HB3
    go_wp2_with fail
    refine (HLN.out _).mono ?_
    rintro e w5 ⟨rfl, rfl⟩
    have HPQ : Hid ((p < 0 ∧ lv = 0) ∨ (¬ p < 0 ∧ 64 < p ∧ lv = 0) ∨ (¬ p < 0 ∧ ¬ 64 < p ∧ lv = 1 + p + (p + 31) / 32)) := Lib.hid (by
      rw [← hlv.out]
      unfold lengthV
      by_cases q0 : p < 0
      · rw [if_pos (Or.inl q0)]; exact Or.inl ⟨q0, rfl⟩
      · by_cases q1 : 64 < p
        · rw [if_pos (Or.inr q1)]; exact Or.inr (Or.inl ⟨q0, q1, rfl⟩)
        · rw [if_neg (fun h => h.elim q0 q1)]
          refine Or.inr (Or.inr ⟨q0, q1, ?_⟩)
          unfold lenN
          omega)
    clear HLN hlv
    rcases HPQ.out with ⟨q0, rfl⟩ | ⟨q0, q1, rfl⟩ | ⟨q0, q1, hlv⟩
    · go_upto_region 11 with fail
      by_cases hb : 64 < n
      · have hbi : (64 : Int) < (n : Int) := by omega
        have hk : ck = 4 := by rw [← hck.out]; exact chkE_big (by rw [hn]; exact hb)
        subst hk
        have hm : ((lm : Int) == 0) = true := by have := HM0.out (by decide); rw [this]; rfl
        go_wp2_with fail
        refine (PA.out _).mono ?_
        rintro e w6 ⟨rfl, b6⟩
        go_wp2_with fail
        go_ret
        exact ⟨rfl, HB.out.trans ((HB4.out.trans (b6.mono HB4.out.size)).mono HB.out.size)⟩
      · have hbi : ¬ (64 : Int) < (n : Int) := by omega
        have h64 : R.ps.length ≤ 64 := by rw [hn]; omega
        have HRT4 := Lib.hid (HRT.out _ HB4.out)
        by_cases hrp : rightP R
        · have hc0 := (right_chk h64).1 hrp
          rw [decide_eq_true hrp] at HRT4
          have hk : ck = 0 := by rw [← hck.out]; exact hc0
          subst hk
          obtain ⟨hm, hTl⟩ := HMK4.out rfl
          have HM := Lib.hid hm
          have HTl := Lib.hid hTl
          have HLL : Hid (lengthV (n : Int) = (lm : Int)) := Lib.hid (by unfold lengthV; rw [if_neg (by omega), Int.toNat_natCast, hm])
          rw [HLL.out] at HLR
          have hmm : ((lm : Int) == (lm : Int)) = true := by simp
          have hlm : lm ≤ 9223372036854775807 := by rw [hm]; unfold lenN; omega
          have HLY := Lib.hid (fun (w' : World) (hb : Below w1.heap.size w1 w') => rlay_ok R ao n cap w' hr hn (HP1.out.below hb) hc0)
          have HSM := Lib.hid (fun a c (w' : World) (h1 : TxtAt w' la (layL R)) (h2 : TxtAt w' a (layL R)) => same_any (layL R) (layL R) la a lm lc lm c w' (by rw [layL_len, hn, hm]) (by rw [layL_len, hn, hm]) hlm hlm h1 h2)
          rw [decide_eq_true (rfl : layL R = layL R)] at HSM
          rw [← hm] at HLY
          clear hm hTl hrp hc0 hn hr h64
          go_wp2_with ((with_reducible refine wpList_load_row_i (g := w.heap.size) (cs := rcA R (.slice ao n cap)) 26 _ rfl ?_ ?_ ?_); exact ⟨rfl, rfl⟩; assumption)
          refine HRT4.out.mono ?_
          rintro e w5 ⟨rfl, b5⟩
          have HB5 := Lib.hid (HB4.out.trans (b5.mono HB4.out.size))
          have HT5 := Lib.hid (HTl.out.below b5)
          clear b5 L4 c33
          go_wp2_with fail
          refine (PA.out _).mono ?_
          rintro e w6 ⟨rfl, b6⟩
          have HB6 := Lib.hid (HB5.out.trans (b6.mono HB5.out.size))
          have HT6 := Lib.hid (HT5.out.below b6)
          have L6 := loaded_rc (HR1.out.below HB6.out)
          clear b6
          go_wp2_with ((with_reducible refine wpList_load_row_i (g := w.heap.size) (cs := rcA R (.slice ao n cap)) 26 _ rfl ?_ ?_ ?_); exact ⟨rfl, rfl⟩; assumption)
          refine (HLY.out _ HB6.out).mono ?_
          rintro e w7 ⟨v7, rfl, o7, b7⟩
          obtain ⟨a7, c7, rfl, _, _, _, hT7⟩ := own_txt o7
          have HB7 := Lib.hid (HB6.out.trans (b7.mono HB6.out.size))
          have HT7 := Lib.hid (HT6.out.below b7)
          have HU7 := Lib.hid hT7
          clear o7 b7 hT7 L6
          go_wp2_with fail
          refine (HSM.out _ _ _ HT7.out HU7.out).mono ?_
          rintro e w8 ⟨rfl, b8⟩
          have HB8 := Lib.hid (HB7.out.trans (b8.mono HB7.out.size))
          have c33 := (HR1.out.below HB8.out).ps
          clear b8
          go_wp2_with fail
          refine (HLR.out _).mono ?_
          rintro e w9 ⟨rfl, rfl⟩
          go_wp2_with fail
          go_ret
          exact ⟨rfl, HB.out.trans (HB8.out.mono HB.out.size)⟩
        · rw [decide_eq_false hrp] at HRT4
          have hk : ck = 2 := by rw [← hck.out]; exact chkE_two h64 hrp
          subst hk
          have hm : ((lm : Int) == 0) = true := by have := HM0.out (by decide); rw [this]; rfl
          clear hrp
          go_wp2_with ((with_reducible refine wpList_load_row_i (g := w.heap.size) (cs := rcA R (.slice ao n cap)) 26 _ rfl ?_ ?_ ?_); exact ⟨rfl, rfl⟩; assumption)
          refine HRT4.out.mono ?_
          rintro e w5 ⟨rfl, b5⟩
          have HB5 := Lib.hid (HB4.out.trans (b5.mono HB4.out.size))
          clear b5 L4 c33
          go_wp2_with fail
          refine (PA.out _).mono ?_
          rintro e w6 ⟨rfl, b6⟩
          go_wp2_with fail
          go_ret
          exact ⟨rfl, HB.out.trans ((HB5.out.trans (b6.mono HB5.out.size)).mono HB.out.size)⟩
    · go_upto_region 11 with fail
      by_cases hb : 64 < n
      · have hbi : (64 : Int) < (n : Int) := by omega
        have hk : ck = 4 := by rw [← hck.out]; exact chkE_big (by rw [hn]; exact hb)
        subst hk
        have hm : ((lm : Int) == 0) = true := by have := HM0.out (by decide); rw [this]; rfl
        go_wp2_with fail
        refine (PA.out _).mono ?_
        rintro e w6 ⟨rfl, b6⟩
        go_wp2_with fail
        go_ret
        exact ⟨rfl, HB.out.trans ((HB4.out.trans (b6.mono HB4.out.size)).mono HB.out.size)⟩
      · have hbi : ¬ (64 : Int) < (n : Int) := by omega
        have h64 : R.ps.length ≤ 64 := by rw [hn]; omega
        have HRT4 := Lib.hid (HRT.out _ HB4.out)
        by_cases hrp : rightP R
        · have hc0 := (right_chk h64).1 hrp
          rw [decide_eq_true hrp] at HRT4
          have hk : ck = 0 := by rw [← hck.out]; exact hc0
          subst hk
          obtain ⟨hm, hTl⟩ := HMK4.out rfl
          have HM := Lib.hid hm
          have HTl := Lib.hid hTl
          have HLL : Hid (lengthV (n : Int) = (lm : Int)) := Lib.hid (by unfold lengthV; rw [if_neg (by omega), Int.toNat_natCast, hm])
          rw [HLL.out] at HLR
          have hmm : ((lm : Int) == (lm : Int)) = true := by simp
          have hlm : lm ≤ 9223372036854775807 := by rw [hm]; unfold lenN; omega
          have HLY := Lib.hid (fun (w' : World) (hb : Below w1.heap.size w1 w') => rlay_ok R ao n cap w' hr hn (HP1.out.below hb) hc0)
          have HSM := Lib.hid (fun a c (w' : World) (h1 : TxtAt w' la (layL R)) (h2 : TxtAt w' a (layL R)) => same_any (layL R) (layL R) la a lm lc lm c w' (by rw [layL_len, hn, hm]) (by rw [layL_len, hn, hm]) hlm hlm h1 h2)
          rw [decide_eq_true (rfl : layL R = layL R)] at HSM
          rw [← hm] at HLY
          clear hm hTl hrp hc0 hn hr h64
          go_wp2_with ((with_reducible refine wpList_load_row_i (g := w.heap.size) (cs := rcA R (.slice ao n cap)) 26 _ rfl ?_ ?_ ?_); exact ⟨rfl, rfl⟩; assumption)
          refine HRT4.out.mono ?_
          rintro e w5 ⟨rfl, b5⟩
          have HB5 := Lib.hid (HB4.out.trans (b5.mono HB4.out.size))
          have HT5 := Lib.hid (HTl.out.below b5)
          clear b5 L4 c33
          go_wp2_with fail
          refine (PA.out _).mono ?_
          rintro e w6 ⟨rfl, b6⟩
          have HB6 := Lib.hid (HB5.out.trans (b6.mono HB5.out.size))
          have HT6 := Lib.hid (HT5.out.below b6)
          have L6 := loaded_rc (HR1.out.below HB6.out)
          clear b6
          go_wp2_with ((with_reducible refine wpList_load_row_i (g := w.heap.size) (cs := rcA R (.slice ao n cap)) 26 _ rfl ?_ ?_ ?_); exact ⟨rfl, rfl⟩; assumption)
          refine (HLY.out _ HB6.out).mono ?_
          rintro e w7 ⟨v7, rfl, o7, b7⟩
          obtain ⟨a7, c7, rfl, _, _, _, hT7⟩ := own_txt o7
          have HB7 := Lib.hid (HB6.out.trans (b7.mono HB6.out.size))
          have HT7 := Lib.hid (HT6.out.below b7)
          have HU7 := Lib.hid hT7
          clear o7 b7 hT7 L6
          go_wp2_with fail
          refine (HSM.out _ _ _ HT7.out HU7.out).mono ?_
          rintro e w8 ⟨rfl, b8⟩
          have HB8 := Lib.hid (HB7.out.trans (b8.mono HB7.out.size))
          have c33 := (HR1.out.below HB8.out).ps
          clear b8
          go_wp2_with fail
          refine (HLR.out _).mono ?_
          rintro e w9 ⟨rfl, rfl⟩
          go_wp2_with fail
          go_ret
          exact ⟨rfl, HB.out.trans (HB8.out.mono HB.out.size)⟩
        · rw [decide_eq_false hrp] at HRT4
          have hk : ck = 2 := by rw [← hck.out]; exact chkE_two h64 hrp
          subst hk
          have hm : ((lm : Int) == 0) = true := by have := HM0.out (by decide); rw [this]; rfl
          clear hrp
          go_wp2_with ((with_reducible refine wpList_load_row_i (g := w.heap.size) (cs := rcA R (.slice ao n cap)) 26 _ rfl ?_ ?_ ?_); exact ⟨rfl, rfl⟩; assumption)
          refine HRT4.out.mono ?_
          rintro e w5 ⟨rfl, b5⟩
          have HB5 := Lib.hid (HB4.out.trans (b5.mono HB4.out.size))
          clear b5 L4 c33
          go_wp2_with fail
          refine (PA.out _).mono ?_
          rintro e w6 ⟨rfl, b6⟩
          go_wp2_with fail
          go_ret
          exact ⟨rfl, HB.out.trans ((HB5.out.trans (b6.mono HB5.out.size)).mono HB.out.size)⟩
    · have y1 : IntKind.i64.wrap (1 + p) = 1 + p := IntWalk.i64_in _ (by omega)
      have y2 : IntKind.i64.wrap (p + 31) = p + 31 := IntWalk.i64_in _ (by omega)
      have y3 : (p + 31).tdiv 32 = (p + 31) / 32 := Int.tdiv_eq_ediv_of_nonneg (by omega)
      obtain ⟨q, hq⟩ : ∃ q, Hid ((p + 31) / 32 = q) := ⟨_, Lib.hid rfl⟩
      rw [hq.out] at y3
      have y3' : (p + 31) / 32 = q := hq.out
      have y4 : IntKind.i64.wrap q = q := IntWalk.i64_in _ (by omega)
      have y5 : IntKind.i64.wrap (1 + p + q) = lv := by rw [hlv, hq.out]; exact IntWalk.i64_in _ (by omega)
      clear hlv
      go_upto_region 11 with fail
      by_cases hb : 64 < n
      · have hbi : (64 : Int) < (n : Int) := by omega
        have hk : ck = 4 := by rw [← hck.out]; exact chkE_big (by rw [hn]; exact hb)
        subst hk
        have hm : ((lm : Int) == 0) = true := by have := HM0.out (by decide); rw [this]; rfl
        go_wp2_with fail
        refine (PA.out _).mono ?_
        rintro e w6 ⟨rfl, b6⟩
        go_wp2_with fail
        go_ret
        exact ⟨rfl, HB.out.trans ((HB4.out.trans (b6.mono HB4.out.size)).mono HB.out.size)⟩
      · have hbi : ¬ (64 : Int) < (n : Int) := by omega
        have h64 : R.ps.length ≤ 64 := by rw [hn]; omega
        have HRT4 := Lib.hid (HRT.out _ HB4.out)
        by_cases hrp : rightP R
        · have hc0 := (right_chk h64).1 hrp
          rw [decide_eq_true hrp] at HRT4
          have hk : ck = 0 := by rw [← hck.out]; exact hc0
          subst hk
          obtain ⟨hm, hTl⟩ := HMK4.out rfl
          have HM := Lib.hid hm
          have HTl := Lib.hid hTl
          have HLL : Hid (lengthV (n : Int) = (lm : Int)) := Lib.hid (by unfold lengthV; rw [if_neg (by omega), Int.toNat_natCast, hm])
          rw [HLL.out] at HLR
          have hmm : ((lm : Int) == (lm : Int)) = true := by simp
          have hlm : lm ≤ 9223372036854775807 := by rw [hm]; unfold lenN; omega
          have HLY := Lib.hid (fun (w' : World) (hb : Below w1.heap.size w1 w') => rlay_ok R ao n cap w' hr hn (HP1.out.below hb) hc0)
          have HSM := Lib.hid (fun a c (w' : World) (h1 : TxtAt w' la (layL R)) (h2 : TxtAt w' a (layL R)) => same_any (layL R) (layL R) la a lm lc lm c w' (by rw [layL_len, hn, hm]) (by rw [layL_len, hn, hm]) hlm hlm h1 h2)
          rw [decide_eq_true (rfl : layL R = layL R)] at HSM
          rw [← hm] at HLY
          clear hm hTl hrp hc0 hn hr h64
          go_wp2_with ((with_reducible refine wpList_load_row_i (g := w.heap.size) (cs := rcA R (.slice ao n cap)) 26 _ rfl ?_ ?_ ?_); exact ⟨rfl, rfl⟩; assumption)
          refine HRT4.out.mono ?_
          rintro e w5 ⟨rfl, b5⟩
          have HB5 := Lib.hid (HB4.out.trans (b5.mono HB4.out.size))
          have HT5 := Lib.hid (HTl.out.below b5)
          clear b5 L4 c33
          go_wp2_with fail
          refine (PA.out _).mono ?_
          rintro e w6 ⟨rfl, b6⟩
          have HB6 := Lib.hid (HB5.out.trans (b6.mono HB5.out.size))
          have HT6 := Lib.hid (HT5.out.below b6)
          have L6 := loaded_rc (HR1.out.below HB6.out)
          clear b6
          go_wp2_with ((with_reducible refine wpList_load_row_i (g := w.heap.size) (cs := rcA R (.slice ao n cap)) 26 _ rfl ?_ ?_ ?_); exact ⟨rfl, rfl⟩; assumption)
          refine (HLY.out _ HB6.out).mono ?_
          rintro e w7 ⟨v7, rfl, o7, b7⟩
          obtain ⟨a7, c7, rfl, _, _, _, hT7⟩ := own_txt o7
          have HB7 := Lib.hid (HB6.out.trans (b7.mono HB6.out.size))
          have HT7 := Lib.hid (HT6.out.below b7)
          have HU7 := Lib.hid hT7
          clear o7 b7 hT7 L6
          go_wp2_with fail
          refine (HSM.out _ _ _ HT7.out HU7.out).mono ?_
          rintro e w8 ⟨rfl, b8⟩
          have HB8 := Lib.hid (HB7.out.trans (b8.mono HB7.out.size))
          have c33 := (HR1.out.below HB8.out).ps
          clear b8
          go_wp2_with fail
          refine (HLR.out _).mono ?_
          rintro e w9 ⟨rfl, rfl⟩
          go_wp2_with fail
          go_ret
          exact ⟨rfl, HB.out.trans (HB8.out.mono HB.out.size)⟩
        · rw [decide_eq_false hrp] at HRT4
          have hk : ck = 2 := by rw [← hck.out]; exact chkE_two h64 hrp
          subst hk
          have hm : ((lm : Int) == 0) = true := by have := HM0.out (by decide); rw [this]; rfl
          clear hrp
          go_wp2_with ((with_reducible refine wpList_load_row_i (g := w.heap.size) (cs := rcA R (.slice ao n cap)) 26 _ rfl ?_ ?_ ?_); exact ⟨rfl, rfl⟩; assumption)
          refine HRT4.out.mono ?_
          rintro e w5 ⟨rfl, b5⟩
          have HB5 := Lib.hid (HB4.out.trans (b5.mono HB4.out.size))
          clear b5 L4 c33
          go_wp2_with fail
          refine (PA.out _).mono ?_
          rintro e w6 ⟨rfl, b6⟩
          go_wp2_with fail
          go_ret
          exact ⟨rfl, HB.out.trans ((HB5.out.trans (b6.mono HB5.out.size)).mono HB.out.size)⟩
  · rw [decide_eq_false hl] at HL
    clear hl
    go_enter Try.func3, Try.ntmps3
    go_upto_region 1 with fail
    rw [HW.out]
    clear HW
    go_wp2_with ((with_reducible refine wpList_load_row_i (g := w.heap.size) (cs := rcA R (.slice ao n cap)) 26 _ rfl ?_ ?_ ?_); exact ⟨rfl, rfl⟩; assumption)
    refine HL.out.mono ?_
    rintro e w2 ⟨rfl, b2⟩
    go_wp2_with fail
    refine (PA.out _).mono ?_
    rintro e w3 ⟨rfl, b3⟩
    go_wp2_with fail
    go_ret
    exact ⟨rfl, HB.out.trans ((b2.trans (b3.mono b2.size)).mono HB.out.size)⟩
section
variable {H : Type} {enc : TypeId × Value → H}
theorem recordLays_walk {r : Reach} {b0 : Nat} (v : Value) (d : DataW H) (q : List MemPlace) (p : Int) (w : World) (hok : Value.okWide Try.prog w r b0 26 v) (h : DataW.Trod enc Try.prog w 0 (fun _ => true) true 26 v d q) (hp : (Lit.int .i64 p).wf = true) :
    Calls Try.prog 3 #[v, .int .i64 p] w fun e w' => e = .returned (.bool true) ∧ Below w.heap.size w w' := by
  obtain ⟨R, ao, n, cap, rfl, hr, hn, hc, hm, hP⟩ := open_rec hok h
  have h2 : IntKind.i64.min ≤ p ∧ p ≤ IntKind.i64.max := by simpa [Lit.wf] using hp
  rw [show IntKind.i64.min = -9223372036854775808 from by decide, show IntKind.i64.max = 9223372036854775807 from by decide] at h2
  exact recordLays_any R ao n cap p w hr hn (by unfold maxLen at hm; omega) hP h2.1 h2.2
end
end Go.Proofs.Ythhaadcpenlnkaa
