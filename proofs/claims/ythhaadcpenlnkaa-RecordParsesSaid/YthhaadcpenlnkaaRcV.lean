/- The law RecordOnly. -/
import Derived.Test.YthhaadcpenlnkaaRcU
namespace Go.Proofs.Ythhaadcpenlnkaa
open Go.ChangeShapes Go.WideShapes Go.Deep Go.RowKit
set_option linter.unusedVariables false
set_option linter.unusedSimpArgs false
attribute [local irreducible] rcA
theorem resN_bad {L : List ByteArray} (h : eP L ≠ 0) : resN L = 0 := by unfold resN; rw [if_neg h]
set_option maxRecDepth 100000 in
set_option maxHeartbeats 8000000 in
theorem recordOnly_any (L : List ByteArray) (al : Option Addr) (nl cl : Nat) (A B : Rc) (aa ab : Option Addr) (na ca nb cb : Nat) (w : World)
    (hL : L.length = nl) (hlc : nl ≤ cl) (hcl : cl ≤ maxLen) (hTL : TxtAt w al L)
    (ha : A.root.length = 32) (hna : A.ps.length = na) (hma : na ≤ 9223372036854775807) (hTA : PtAt w aa A.ps)
    (hb : B.root.length = 32) (hnb : B.ps.length = nb) (hmb : nb ≤ 9223372036854775807) (hTB : PtAt w ab B.ps) :
    Calls Try.prog 6 #[.slice al nl cl, .agg (rcA A (.slice aa na ca)), .agg (rcA B (.slice ab nb cb))] w fun e w' => e = .returned (.bool true) ∧ Below w.heap.size w w' := by
  have hnlm : nl ≤ 9223372036854775807 := by unfold maxLen at hcl; omega
  obtain ⟨w1, HW, hA, hB, HB⟩ := two_rc w A B (.slice aa na ca) (.slice ab nb cb) ha hb
  have PA := Lib.hid awake13
  have HTL := Lib.hid (hTL.below HB.out)
  have HTA := Lib.hid (hTA.below HB.out)
  have HTB := Lib.hid (hTB.below HB.out)
  have HA := Lib.hid hA
  have HBB := Lib.hid hB
  have la1 := loaded_rc hA
  have lb1 := loaded_rc hB
  have HSH := Lib.hid (short_any L al nl cl w1 hL hnlm HTL.out)
  have HLA := Lib.hid (light_any A aa na ca w1 ha hna hma HTA.out)
  have HLB := Lib.hid (fun (w' : World) (h : Below w1.heap.size w1 w') => light_any B ab nb cb w' hb hnb hmb (HTB.out.below h))
  have hszA := rc_loaded (.slice aa na ca) ha
  have hszB := rc_loaded (.slice ab nb cb) hb
  obtain ⟨bs, hbs⟩ : ∃ bs, Hid (decide (shortP L) = bs) := ⟨_, Lib.hid rfl⟩
  obtain ⟨ba, hba⟩ : ∃ ba, Hid (decide (lightP A.ps) = ba) := ⟨_, Lib.hid rfl⟩
  obtain ⟨bb, hbb⟩ : ∃ bb, Hid (decide (lightP B.ps) = bb) := ⟨_, Lib.hid rfl⟩
  rw [hbs.out] at HSH
  rw [hba.out] at HLA
  rw [hbb.out] at HLB
  clear hA hB hTL hTA hTB
  cases bs with
  | false =>
    go_enter Try.func6, Try.ntmps6
    go_upto_region 1 with fail
    rw [HW.out]
    clear HW
    go_wp2_with fail
    refine HSH.out.mono ?_
    rintro e w2 ⟨rfl, rfl⟩
    go_wp2_with fail
    refine (PA.out _).mono ?_
    rintro e w3 ⟨rfl, b3⟩
    go_wp2_with fail
    go_ret
    exact ⟨rfl, HB.out.trans (b3.mono HB.out.size)⟩
  | true =>
    cases ba with
    | false =>
      go_enter Try.func6, Try.ntmps6
      go_upto_region 1 with fail
      rw [HW.out]
      clear HW
      go_wp2_with fail
      refine HSH.out.mono ?_
      rintro e w2 ⟨rfl, rfl⟩
      go_wp2_with ((with_reducible refine wpList_load_row_i (g := w.heap.size) (cs := rcA A (.slice aa na ca)) 26 _ rfl ?_ ?_ ?_); exact ⟨rfl, rfl⟩; assumption)
      refine HLA.out.mono ?_
      rintro e w2 ⟨rfl, b2⟩
      go_wp2_with fail
      refine (PA.out _).mono ?_
      rintro e w3 ⟨rfl, b3⟩
      go_wp2_with fail
      go_ret
      exact ⟨rfl, HB.out.trans ((b2.trans (b3.mono b2.size)).mono HB.out.size)⟩
    | true =>
      go_enter Try.func6, Try.ntmps6
      go_upto_region 1 with fail
      rw [HW.out]
      clear HW
      go_wp2_with fail
      refine HSH.out.mono ?_
      rintro e w2 ⟨rfl, rfl⟩
      go_wp2_with ((with_reducible refine wpList_load_row_i (g := w.heap.size) (cs := rcA A (.slice aa na ca)) 26 _ rfl ?_ ?_ ?_); exact ⟨rfl, rfl⟩; assumption)
      refine HLA.out.mono ?_
      rintro e w2 ⟨rfl, b2⟩
      have HB2 := Lib.hid b2
      have lb2 := loaded_rc (HBB.out.below b2)
      have la2 := loaded_rc (HA.out.below b2)
      clear b2 la1 lb1 HLA HSH
      go_wp2_with ((with_reducible refine wpList_load_row_i (g := w.heap.size + 1) (cs := rcA B (.slice ab nb cb)) 26 _ rfl ?_ ?_ ?_); exact ⟨rfl, rfl⟩; assumption)
      refine (HLB.out _ HB2.out).mono ?_
      rintro e w3 ⟨rfl, b3⟩
      have HB3 := Lib.hid (HB2.out.trans (b3.mono HB2.out.size))
      clear b3 la2 lb2 HLB HB2
      cases bb with
      | false =>
        go_wp2_with fail
        refine (PA.out _).mono ?_
        rintro e w4 ⟨rfl, b4⟩
        go_wp2_with fail
        go_ret
        exact ⟨rfl, HB.out.trans ((HB3.out.trans (b4.mono HB3.out.size)).mono HB.out.size)⟩
      | true =>
        have PSR := Lib.hid (fun (w' : World) (h : Below w1.heap.size w1 w') => rcsame_any A B aa ab na ca nb cb w' ha hb hna hnb hma hmb (HTA.out.below h) (HTB.out.below h))
        have PRS := Lib.hid (fun (w' : World) (h : Below w1.heap.size w1 w') => rsame_any A B aa ab na ca nb cb w' ha hb hna hnb hma hmb (HTA.out.below h) (HTB.out.below h))
        have PSA := Lib.hid (fun (w' : World) (h : Below w1.heap.size w1 w') => rcsame_any A A aa aa na ca na ca w' ha ha hna hna hma hma (HTA.out.below h) (HTA.out.below h))
        rw [rcEq_self] at PSA
        generalize rcEq A B = z at *
        have hzz : (z != z) = false := by simp
        have hzz2 : (z == z) = true := by simp
        go_upto_region 3 with fail
        refine wp_region_lin (S := (fun w' => RcAt w' w.heap.size A (.slice aa na ca) ∧ RcAt w' (w.heap.size + 1) B (.slice ab nb cb))) [(0, true), (1, true), (3, true), (4, true), (2, false), (5, false), (6, true), (7, true), (8, true), (9, true), (10, false), (11, true), (12, true)] (by kernel_rfl) (by kernel_rfl) rfl (by kernel_rfl) ?_ (fun hHeld => ?_)
        · (try dsimp only); exact ⟨HA.out.below HB3.out.drew, HBB.out.below HB3.out.drew⟩
        have HB4 : Hid (Below w1.heap.size w1 w3.drew) := Lib.hid HB3.out.drew
        generalize World.drew w3 = w4 at hHeld HB4 ⊢
        refine wpL_calm (o := { dst := some 26, op := Go.Op.load 26 (Go.Operand.tmp 4), type := 26, pos := "law.go:119", after := #[], guard := none }) rfl (yieldsIf_load_mid (by rfl) _ _ rfl w.heap.size 0 rfl (rcA A (.slice aa na ca)).toList _ (fun _ h => rc_cellsA h.1) Try.underlying26 rfl (by rw [Array.length_toList]; exact hszA)) ?_
        try simp only [Act.put, List.setIfInBounds_toArray, List.set_cons_zero, List.set_cons_succ]
        refine wpL_calm (o := { dst := some 27, op := Go.Op.load 26 (Go.Operand.tmp 5), type := 26, pos := "law.go:119", after := #[], guard := none }) rfl (yieldsIf_load_mid (by rfl) _ _ rfl (w.heap.size + 1) 0 rfl (rcA B (.slice ab nb cb)).toList _ (fun _ h => rc_cellsA h.2) Try.underlying26 rfl (by rw [Array.length_toList]; exact hszB)) ?_
        try simp only [Act.put, List.setIfInBounds_toArray, List.set_cons_zero, List.set_cons_succ]
        refine wpL_calm (o := { dst := some 29, op := Go.Op.load 26 (Go.Operand.tmp 4), type := 26, pos := "law.go:119", after := #[], guard := none }) rfl (yieldsIf_load_mid (by rfl) _ _ rfl w.heap.size 0 rfl (rcA A (.slice aa na ca)).toList _ (fun _ h => rc_cellsA h.1) Try.underlying26 rfl (by rw [Array.length_toList]; exact hszA)) ?_
        try simp only [Act.put, List.setIfInBounds_toArray, List.set_cons_zero, List.set_cons_succ]
        refine wpL_calm (o := { dst := some 30, op := Go.Op.load 26 (Go.Operand.tmp 5), type := 26, pos := "law.go:119", after := #[], guard := none }) rfl (yieldsIf_load_mid (by rfl) _ _ rfl (w.heap.size + 1) 0 rfl (rcA B (.slice ab nb cb)).toList _ (fun _ h => rc_cellsA h.2) Try.underlying26 rfl (by rw [Array.length_toList]; exact hszB)) ?_
        try simp only [Act.put, List.setIfInBounds_toArray, List.set_cons_zero, List.set_cons_succ]
        refine wpL_loud1 (o := { dst := some 28, op := Go.Op.call { callee := Go.Callee.value (Go.Operand.func 20), args := #[Go.Operand.tmp 26, Go.Operand.tmp 27], argTypes := #[26, 26] }, type := 4, pos := "law.go:119", after := #[{ on := 0, ground := Go.Ground.data }, { on := 1, ground := Go.Ground.data }], guard := none }) rfl (fun K hK => ?_)
        (go_simp; go_at_call 20; refine (PSR.out _ HB4.out).mono ?_; rintro e w5 ⟨rfl, b5⟩)
        try go_wp2_with fail
        refine hK.out _ _ ?_ (fun hHeld => ?_)
        · (try dsimp only); exact ⟨HA.out.below (HB4.out.trans (b5.mono HB4.out.size)), HBB.out.below (HB4.out.trans (b5.mono HB4.out.size))⟩
        clear hK K
        try simp only [Act.put, List.setIfInBounds_toArray, List.set_cons_zero, List.set_cons_succ]
        have HB5 := Lib.hid (HB4.out.trans (b5.mono HB4.out.size)); clear b5
        refine wpL_loud1 (o := { dst := some 31, op := Go.Op.call { callee := Go.Callee.value (Go.Operand.func 18), args := #[Go.Operand.tmp 29, Go.Operand.tmp 30], argTypes := #[26, 26] }, type := 4, pos := "law.go:119", after := #[{ on := 3, ground := Go.Ground.data }, { on := 4, ground := Go.Ground.data }, { on := 2, ground := Go.Ground.chain }], guard := none }) rfl (fun K hK => ?_)
        (go_simp; go_at_call 18; refine (PRS.out _ HB5.out).mono ?_; rintro e w6 ⟨rfl, b6⟩)
        try go_wp2_with fail
        refine hK.out _ _ ?_ (fun hHeld => ?_)
        · (try dsimp only); exact ⟨HA.out.below (HB5.out.trans (b6.mono HB5.out.size)), HBB.out.below (HB5.out.trans (b6.mono HB5.out.size))⟩
        clear hK K
        try simp only [Act.put, List.setIfInBounds_toArray, List.set_cons_zero, List.set_cons_succ]
        have HB6 := Lib.hid (HB5.out.trans (b6.mono HB5.out.size)); clear b6
        refine wpL_calm (o := { dst := some 32, op := Go.Op.binOp Go.BinOp.neq 4 (Go.Operand.tmp 28) (Go.Operand.tmp 31) 4, type := 4, pos := "law.go:119", after := #[{ on := 2, ground := Go.Ground.data }, { on := 5, ground := Go.Ground.data }], guard := none }) (v := ?_) rfl (Or.inl ⟨by rfl, ?_⟩) ?_; rotate_left; (focus (intro w hSw; (try dsimp only at hSw); go_simp; (try (with_reducible rfl)); done)); try simp only [Act.put, List.setIfInBounds_toArray, List.set_cons_zero, List.set_cons_succ]
        refine wpL_calm (o := { dst := some 33, op := Go.Op.move (Go.Operand.tmp 32), type := 4, pos := "law.go:119", after := #[{ on := 6, ground := Go.Ground.data }, { on := 5, ground := Go.Ground.chain }], guard := none }) (v := ?_) rfl (Or.inl ⟨by rfl, ?_⟩) ?_; rotate_left; (focus (intro w hSw; (try dsimp only at hSw); go_simp; (try (with_reducible rfl)); done)); try simp only [Act.put, List.setIfInBounds_toArray, List.set_cons_zero, List.set_cons_succ]
        refine wpL_calm (o := { dst := some 34, op := Go.Op.load 26 (Go.Operand.tmp 4), type := 26, pos := "law.go:119", after := #[{ on := 7, ground := Go.Ground.guard }], guard := some (7, false) }) rfl (yieldsIf_load_mid (by rfl) _ _ rfl w.heap.size 0 rfl (rcA A (.slice aa na ca)).toList _ (fun _ h => rc_cellsA h.1) Try.underlying26 rfl (by rw [Array.length_toList]; exact hszA)) ?_
        try simp only [Act.put, List.setIfInBounds_toArray, List.set_cons_zero, List.set_cons_succ]
        refine wpL_calm (o := { dst := some 35, op := Go.Op.load 26 (Go.Operand.tmp 4), type := 26, pos := "law.go:119", after := #[{ on := 7, ground := Go.Ground.guard }], guard := some (7, false) }) rfl (yieldsIf_load_mid (by rfl) _ _ rfl w.heap.size 0 rfl (rcA A (.slice aa na ca)).toList _ (fun _ h => rc_cellsA h.1) Try.underlying26 rfl (by rw [Array.length_toList]; exact hszA)) ?_
        try simp only [Act.put, List.setIfInBounds_toArray, List.set_cons_zero, List.set_cons_succ]
        refine wpL_loud1 (o := { dst := some 36, op := Go.Op.call { callee := Go.Callee.value (Go.Operand.func 20), args := #[Go.Operand.tmp 34, Go.Operand.tmp 35], argTypes := #[26, 26] }, type := 4, pos := "law.go:119", after := #[{ on := 8, ground := Go.Ground.data }, { on := 9, ground := Go.Ground.data }, { on := 7, ground := Go.Ground.chain }, { on := 7, ground := Go.Ground.guard }], guard := some (7, false) }) rfl (fun K hK => ?_)
        (go_simp; go_at_call 20; refine (PSA.out _ HB6.out).mono ?_; rintro e w7 ⟨rfl, b7⟩)
        try go_wp2_with fail
        refine hK.out _ _ ?_ (fun hHeld => ?_)
        · (try dsimp only); exact ⟨HA.out.below (HB6.out.trans (b7.mono HB6.out.size)), HBB.out.below (HB6.out.trans (b7.mono HB6.out.size))⟩
        clear hK K
        try simp only [Act.put, List.setIfInBounds_toArray, List.set_cons_zero, List.set_cons_succ]
        have HB7 := Lib.hid (HB6.out.trans (b7.mono HB6.out.size)); clear b7
        refine wpL_calm (o := { dst := some 37, op := Go.Op.unOp Go.UnOp.not 4 (Go.Operand.tmp 36), type := 4, pos := "law.go:119", after := #[{ on := 10, ground := Go.Ground.data }, { on := 7, ground := Go.Ground.guard }], guard := some (7, false) }) (v := ?_) rfl (Or.inl ⟨by rfl, ?_⟩) ?_; rotate_left; (focus (intro w hSw; (try dsimp only at hSw); go_simp; (try (with_reducible rfl)); done)); try simp only [Act.put, List.setIfInBounds_toArray, List.set_cons_zero, List.set_cons_succ]
        refine wpL_calm (o := { dst := some 38, op := Go.Op.pick (Go.Operand.tmp 33) (Go.Operand.const (Go.Value.bool true)) (Go.Operand.tmp 37), type := 4, pos := "law.go:119", after := #[{ on := 7, ground := Go.Ground.data }, { on := 11, ground := Go.Ground.data }], guard := none }) (v := ?_) rfl (Or.inl ⟨by rfl, ?_⟩) ?_; rotate_left; (focus (intro w hSw; (try dsimp only at hSw); go_simp; (try (with_reducible rfl)); done)); try simp only [Act.put, List.setIfInBounds_toArray, List.set_cons_zero, List.set_cons_succ]
        refine wpL_nil ?_
        refine NoPanic.normal ?_
        clear hHeld PSR PRS PSA HA HBB HB3 HB4 HB5 HB6 hzz hzz2
        have PP := Lib.hid (parse_any L al nl cl w7 hL hlc hcl (HTL.out.below HB7.out))
        have HT7 := Lib.hid (HTL.out.below HB7.out)
        have hr32 := resR_root L
        have HZ : Hid (eP L = 0 → chkE (resR L) = 0 ∧ layL (resR L) = L.take (lenN (resR L).ps.length) ∧ resN L = (lenN (resR L).ps.length : Int) ∧ lenN (resR L).ps.length ≤ nl) := Lib.hid (fun h => by
          have hz := eP_zero h
          have e1 := resR_good h
          have e2 : (resR L).ps.length = cntP (tB L 0) := by rw [e1]; exact recP_len L
          rw [e2, e1]
          exact ⟨hz.2.2.2.1, hz.2.2.2.2, resN_good h, by rw [← hL]; exact hz.2.2.1⟩)
        have HN0 : Hid (eP L ≠ 0 → resN L = 0) := Lib.hid (fun h => resN_bad h)
        unfold ParseP at PP
        generalize resR L = R at *
        generalize resN L = nz at *
        generalize eP L = z at *
        obtain ⟨k, hk⟩ : ∃ k, Hid (R.ps.length = k) := ⟨_, Lib.hid rfl⟩
        rw [hk.out] at PP HZ
        go_wp2_with fail
        refine PP.out.mono ?_
        rintro e w8 ⟨a8, c8, rfl, hP8, _, b8⟩
        have hszr := rc_loaded (.slice a8 k c8) hr32
        have honer := rcA_one R (.slice a8 k c8) rfl
        have HB8 := Lib.hid (HB7.out.trans (b8.mono HB7.out.size))
        have HT8 := Lib.hid (HT7.out.below b8)
        have HP8 := Lib.hid hP8
        have hzr := zero_rc
        clear b8 PP HT7 hP8
        obtain ⟨w9, HW9, HR9, HB9⟩ := made_rc w8
        go_upto_region 6 with (rw [HW9.out]; refine wpList_store_row rfl _ _ _ rfl w8.heap.size (rcA R (.slice a8 k c8)) rfl rfl 26 _ HR9.1 hszr (by rw [rcA_size _ _ HR9.2, rcA_size _ _ hr32]) honer ?_)
        have hX9 : RcAt (w9.setRow w8.heap.size (rcA R (.slice a8 k c8))) w8.heap.size R (.slice a8 k c8) := ⟨setRow_heap _ _ _ _ 26 (0, 0) HR9.1, hr32⟩
        have b10 := below_setRow HB9.out (Nat.le_refl _) (rcA R (.slice a8 k c8))
        have HX10 := Lib.hid hX9
        have HB10 := Lib.hid (HB8.out.trans (b10.mono HB8.out.size))
        have HT10 := Lib.hid (HT8.out.below b10)
        have HP10 := Lib.hid (HP8.out.below b10)
        clear HR9 HB9 HW9 hX9 b10 HB8 HT8 HP8 hzr
        generalize w9.setRow w8.heap.size (rcA R (.slice a8 k c8)) = w10 at *
        generalize w8.heap.size = gx at *
        by_cases h0 : z = 0
        · obtain ⟨hchk, hlay, hnz, hle⟩ := HZ.out h0
          subst h0
          obtain ⟨N, hN⟩ : ∃ N, Hid (lenN k = N) := ⟨_, Lib.hid rfl⟩
          have PL := Lib.hid (lay_ok R a8 k c8 w10 hr32 hk.out HP10.out hchk)
          rw [hN.out] at PL hle hlay hnz
          subst hnz
          have hNi : (N : Int) ≤ (nl : Int) := by omega
          have hNc : (N : Int) ≤ (cl : Int) := by omega
          have HLAY := Lib.hid hlay
          have HLN : Hid ((layL R).length = N) := Lib.hid (by rw [layL_len, hk.out, hN.out])
          have PE := Lib.hid (fun (a : Option Addr) (c : Nat) (w' : World) (h1 : TxtAt w' a (layL R)) (h2 : TxtAt w' al (L.take N)) => same_any (layL R) (L.take N) a al N c N cl w' HLN.out (by rw [List.length_take, hL]; omega) (by omega) (by omega) h1 h2)
          rw [decide_eq_true hlay] at PE
          clear hlay HZ HN0 hchk
          go_wp2_with (refine wpList_load_row rfl _ _ rfl gx rfl 26 (rcA R (.slice a8 k c8)) (0, 0) _ HX10.out.1 Try.underlying26 rfl hszr ?_)
          refine PL.out.mono ?_
          rintro e w11 ⟨v11, rfl, o11, b11⟩
          obtain ⟨a11, c11, rfl, _, _, _, hT11⟩ := own_txt o11
          have HB11 := Lib.hid (HB10.out.trans (b11.mono HB10.out.size))
          have HL11 := Lib.hid (HT10.out.below b11)
          have HT11 := Lib.hid hT11
          clear PL o11 b11 hT11 HT10
          go_wp2_with fail
          refine (PA.out _).mono ?_
          rintro e w12 ⟨rfl, b12⟩
          have HB12 := Lib.hid (HB11.out.trans (b12.mono HB11.out.size))
          have HL12 := Lib.hid ((HL11.out.below b12).take N)
          have HT12 := Lib.hid (HT11.out.below b12)
          clear b12
          go_wp2_with fail
          refine (PE.out _ _ _ HT12.out HL12.out).mono ?_
          rintro e w13 ⟨rfl, b13⟩
          go_wp2_with fail
          go_ret
          exact ⟨rfl, HB.out.trans ((HB12.out.trans (b13.mono HB12.out.size)).mono HB.out.size)⟩
        · have hnz := HN0.out h0
          subst hnz
          have e0 : (z != 0) = true := by simpa using h0
          clear h0
          go_wp2_with fail
          refine (PA.out _).mono ?_
          rintro e w12 ⟨rfl, b12⟩
          go_wp2_with fail
          go_ret
          exact ⟨rfl, HB.out.trans ((HB10.out.trans (b12.mono HB10.out.size)).mono HB.out.size)⟩
section
variable {H : Type} {enc : TypeId × Value → H}
theorem recordOnly_walk {r : Reach} {b0 : Nat} (vl : Value) (dl : DataW H) (ql : List MemPlace) (va : Value) (da : DataW H) (qa : List MemPlace) (vb : Value) (db : DataW H) (qb : List MemPlace) (w : World)
    (hl : ∃ a len cap, vl = .slice a len cap) (tl : DataW.Trod enc Try.prog w 0 (fun _ => true) true 29 vl dl ql)
    (ha : Value.okWide Try.prog w r b0 26 va) (ta : DataW.Trod enc Try.prog w 0 (fun _ => true) true 26 va da qa)
    (hb : Value.okWide Try.prog w r b0 26 vb) (tb : DataW.Trod enc Try.prog w 0 (fun _ => true) true 26 vb db qb) :
    Calls Try.prog 6 #[vl, va, vb] w fun e w' => e = .returned (.bool true) ∧ Below w.heap.size w w' := by
  obtain ⟨L, al, nl, cl, rfl, hL, hlc, hcl, hTL⟩ := open_txts (r := r) (b0 := b0) hl tl
  obtain ⟨A, aa, na, ca, rfl, ra, hna, hca, hma, hTA⟩ := open_rec ha ta
  obtain ⟨B, ab, nb, cb, rfl, rb, hnb, hcb, hmb, hTB⟩ := open_rec hb tb
  exact recordOnly_any L al nl cl A B aa ab na ca nb cb w hL hlc hcl hTL ra hna (by unfold maxLen at hma; omega) hTA rb hnb (by unfold maxLen at hmb; omega) hTB
end
end Go.Proofs.Ythhaadcpenlnkaa
