/- The law OracleTells (made by genot.py). -/
import Derived.Test.YtaneecmfgfkaaaaDoorOtA
namespace Go.Proofs.YtaneecmfgfkaaaaDoor
open Go.RowKit Go.Deep Go.Maps Go.ChangeShapes Go.WideShapes
set_option linter.unusedVariables false
set_option linter.unusedSimpArgs false
theorem str_cells (W : World) (s : ByteArray) : ∀ j u, [Value.string s][j]? = some u → (W.alloc (.cells #[.string s] 9)).cell? ((⟨W.heap.size, 0, none⟩ : Addr).add j) = some u := fun j u hu => by
  have hj : j = 0 := by
    have := (List.getElem?_eq_some_iff.1 hu).1
    simp at this
    exact this
  subst hj
  have := cell_of_row _ W.heap.size 0 _ _ _ (heap_alloc_new W (.cells #[.string s] 9))
  rw [Addr.add_lit]
  exact this.trans (by simpa using hu)
theorem str_one (s : ByteArray) : ∀ u ∈ [Value.string s], u.oneCell' = true := fun u hu => by rw [List.mem_singleton.1 hu]; rfl
theorem told_some (l : List (List UInt8)) (m : List ByteArray) (hm : ∀ t, t ∈ l ↔ ∃ s ∈ m, s.data.toList = t) (r : Nat × Nat) (h : colF l = some r) : ∃ a b : ByteArray, colV l (some r) = .tuple #[.string a, .string b, .bool true] ∧ a ∈ m ∧ b ∈ m ∧ a ≠ b ∧ sumL a.data.toList = sumL b.data.toList := by
  obtain ⟨i, k⟩ := r
  obtain ⟨hi, hk, h1, h2⟩ := colF_told l i k h
  have back : ∀ (x : List UInt8), x ∈ l → (⟨x.toArray⟩ : ByteArray) ∈ m := fun x hx => by
    obtain ⟨s, hs, e⟩ := (hm x).1 hx
    subst e
    cases s
    simpa using hs
  refine ⟨⟨(l[i]).toArray⟩, ⟨(l[k]).toArray⟩, ?_, back _ (List.getElem_mem hi), back _ (List.getElem_mem hk), fun e => h1 ?_, ?_⟩
  · unfold colV
    simp only [List.getElem?_eq_getElem hi, List.getElem?_eq_getElem hk, Option.getD_some]
  · have := congrArg (fun b : ByteArray => b.data.toList) e
    simpa using this
  · simpa using h2
theorem told_none (l : List (List UInt8)) (m : List ByteArray) (hm : ∀ t, t ∈ l ↔ ∃ s ∈ m, s.data.toList = t) (h : colF l = none) : ∀ s ∈ m, ∀ t ∈ m, s.data.toList ≠ t.data.toList → sumL s.data.toList ≠ sumL t.data.toList := fun s hs t ht hne he => by
  obtain ⟨r, hr⟩ := colF_some l _ _ ((hm _).2 ⟨s, hs, rfl⟩) ((hm _).2 ⟨t, ht, rfl⟩) hne he
  rw [h] at hr
  cases hr
structure TlI (w : World) (og : Addr) (L : List ByteArray) (i : Nat) (v : Value) (wi : World) (Xi : Option OrS) : Prop where
  hx : OrX w.heap.size wi (some og) Xi
  kp : Kps Xi (keepL L i)
  fw : FewX Xi i
  ow : wi.ownsRow w.heap.size 9 1 v (keepL L i).length ((keepL L i).map Value.string)
  fv : FreeV Xi v
  bel : Below w.heap.size w wi
theorem TlI.add {w : World} {og : Addr} {L : List ByteArray} {i : Nat} {v v' : Value} {wi w4 w5 : World} {Xi X' : Option OrS} {s : ByteArray} (h : TlI w og L i v wi Xi) (hk : keepL L (i + 1) = keepL L i ++ [s]) (hX : OrX w.heap.size w4 (some og) X') (hS : SumX Xi X' s.data.toList) (hb : Below w.heap.size wi w4) (hK : KeptX wi w4 Xi X') (ob : Obj)
    (hO : w5.ownsRow w.heap.size 9 1 v' ((keepL L i).length + 1) ((keepL L i).map Value.string ++ [.string s])) (hg : (w4.alloc ob).grownBy w5 v.ownBlock) (ha : v'.ownBlock = v.ownBlock ∨ v'.ownBlock = some (w4.alloc ob).heap.size) : TlI w og L (i + 1) v' w5 X' := by
  have b4 : Below w4.heap.size w4 (w4.alloc ob) := (Below.refl _ _).alloc (Nat.le_refl _) ob
  have f4 := freeV_kept h.ow hK h.fv
  have o4 := own_kept h.ow hK h.fv
  have B4 := h.bel.trans hb
  refine ⟨(hX.below b4).grown hg f4, by rw [hk]; exact h.kp.add hS, hS.few h.fw, by rw [hk, List.length_append, List.map_append]; exact hO, ?_, ((B4.trans (b4.mono B4.size))).grown hg (Nat.le_trans B4.size b4.size) (fun j e => (o4.lt j e).1)⟩
  exact freeV_app (hX.below b4) f4 (fun k e => by
    rcases ha with q | q
    · exact Or.inl (q ▸ e)
    · rw [q] at e
      cases e
      exact Or.inr (Nat.le_refl _))
theorem TlI.skip {w : World} {og : Addr} {L : List ByteArray} {i : Nat} {v : Value} {wi : World} {Xi : Option OrS} (h : TlI w og L i v wi Xi) (hk : keepL L (i + 1) = keepL L i) : TlI w og L (i + 1) v wi Xi :=
  ⟨h.hx, by rw [hk]; exact h.kp, h.fw.mono (by omega), by rw [hk]; exact h.ow, h.fv, h.bel⟩
attribute [local irreducible] digA sumL z32 bv keepL cntL colV colF
set_option maxRecDepth 100000 in
set_option maxHeartbeats 16000000 in
theorem oracleTells_body (L : List ByteArray) (la : Option Addr) (n c : Nat) (w : World) (hG : Gl w) (hn : L.length = n) (hnm : n ≤ 9223372036854775807) (hT : TxtAt w la L) :
    Calls Tryd.prog 4 #[.slice la n c] w fun e w' => e = .returned (.bool true) ∧ Below w.heap.size w w' := by
  have hgf := hG.sf
  have hgk := hG.sk
  obtain ⟨is_, hsi, hsz0, hsz1, hsz2⟩ := info_parts' info_str'
  have HN := Lib.hid hn
  have HT := Lib.hid hT
  have HKN := Lib.hid (keepL_no L)
  have HKY := Lib.hid (keepL_yes L)
  have HKL := Lib.hid (keepL_len L)
  have HKS := Lib.hid (keepL_size L)
  have HSU : Hid (∀ s : ByteArray, s.size ≤ 300 → ∀ wc, Gl wc → Calls Tryd.prog 14 #[.string s] wc fun e w' => e = .returned (.agg (digA (sumL s.data.toList))) ∧ Below wc.heap.size wc w') := Lib.hid (fun s hs wc hg => sum_any s wc (by omega) hg)
  clear hn hT
  go_enter Tryd.func4, Tryd.ntmps4
  go_wp2_with fail
  refine (new_x w.heap.size w (Nat.le_refl _)).mono ?_
  rintro e w1 ⟨rfl, hX1, B1⟩
  obtain ⟨X0, eX0, HI0⟩ : ∃ X0, (some ⟨w.heap.size + 1, [], .slice none 0 0, .slice none 0 0, w.heap.size, .map []⟩ : Option OrS) = X0 ∧ Hid (TlI w ⟨w.heap.size + 1, 0, none⟩ L 0 (.slice none 0 0) w1 X0) := ⟨_, rfl, Lib.hid ⟨hX1, ⟨⟨_, rfl, fun t => by rw [keepL_zero]; simp⟩⟩, FewX.zero w _ _ _ _ _, by rw [keepL_zero]; exact World.ownsRow_nil _ _ _ _, FreeV.nil _, B1⟩⟩
  clear hX1 B1 eX0
  generalize (⟨w.heap.size + 1, 0, none⟩ : Addr) = og at *
  go_wp2_with fail
  go_loopw [5, 4] (fun x v wi => ∃ (i : Nat) (Xi : Option OrS), x = .int .i64 (i : Int) ∧ i ≤ 40 ∧ i ≤ n ∧ Hid (TlI w og L i v wi Xi)) (fun x _ _ => 40 - (intOf x).toNat)
  case atStart => exact ⟨0, X0, rfl, by omega, by omega, HI0⟩
  clear HI0
  case round =>
    obtain ⟨i, Xi, rfl, h40, hin, HI⟩ := hrel
    obtain ⟨a0, c0, rfl, hc1, hc2⟩ := own_sl HI.out.ow
    by_cases hlt : i < n
    · have hli : (i : Int) < (n : Int) := by omega
      by_cases hl4 : i < 40
      · have hl40 : (i : Int) < 40 := by omega
        have hiL : i < L.length := by rw [HN.out]; exact hlt
        obtain ⟨ga, oa, rfl, hga, hta⟩ := HT.out (by omega)
        have hcl := (HI.out.bel.cell (p := ⟨ga, oa + i, none⟩) hga).trans (hta i hiL)
        by_cases hs3 : (L[i]).size ≤ 300
        · as_aux_lemma =>
          have hs30 : ((L[i]).size : Int) ≤ 300 := by omega
          have HSX := Lib.hid (sum_x w.heap.size (some og) Xi L[i] wr (hG.below HI.out.bel) hgf hgk HI.out.hx (HI.out.fw.mono (by omega)) (by omega))
          have HK := Lib.hid (HKY.out i hiL hs3)
          have HAD := Lib.hid (fun w4 X' w5 v' => @TlI.add w og L i (.slice a0 (keepL L i).length c0) v' wr w4 w5 Xi X' L[i] HI.out HK.out)
          have HOW := HI.out.ow
          have HFV := HI.out.fv
          have HBE := HI.out.bel
          have hkl := HKL.out i
          have HCL : Hid (∀ w4, Below w.heap.size w w4 → w4.cell? ⟨ga, oa + i, none⟩ = some (.string L[i])) := Lib.hid (fun w4 hb => (hb.cell (p := ⟨ga, oa + i, none⟩) hga).trans (hta i hiL))
          clear HI HK hta hs3
          generalize (L[i]'hiL) = s at *
          generalize (keepL L i).length = N at *
          generalize (keepL L i).map Value.string = VL at *
          go_wp2_with fail
          refine HSX.out.mono ?_
          rintro e w4 ⟨X', rfl, hX', hS', b4, K4⟩
          have O4 := Lib.hid (own_kept HOW K4 HFV)
          have B4 := HBE.trans b4
          have hcl4 := HCL.out w4 B4
          have hsz4 := B4.size
          have HA4 := Lib.hid (fun w5 v' => HAD.out w4 X' w5 v' hX' hS' b4 K4 (.cells #[.string s] 9))
          clear hX' hS' b4 K4 HAD HSX HOW HFV HBE hcl
          go_wp2_with (at_builtin; refine wpList_append_src2 _ rfl _ _ 25 25 rfl w.heap.size 9 is_ (.string ⟨#[]⟩) 1 16 Tryd.underlying25 hsi hsz0 hsz1 hsz2 (by with_unfolding_all rfl) (by decide) (.slice a0 N c0) N _ rfl (O4.out.alloc _) (.slice (some ⟨w4.heap.size, 0, none⟩) 1 1) 1 [.string s] rfl (Src.ofSlice _ Tryd.underlying25 ⟨w4.heap.size, 0, none⟩ 1 1 [.string s] rfl (str_cells w4 s) (str_one s)) (by unfold maxLen; omega) (by omega) (by simp; omega) ?_; intro v5 w5 O5 G5 A5; obtain ⟨a5, c5, rfl, _, _⟩ := own_sl O5)
          have HI5 := Lib.hid (HA4.out w5 _ O5 G5 A5)
          clear HA4 O5 G5 A5 O4
          go_wp2_with fail
          go_roundw
          case rel => exact ⟨i + 1, X', by go_num, by omega, by omega, HI5⟩
          case measure => simp [intOf]; omega
        · as_aux_lemma =>
          have hs30 : ¬ ((L[i]).size : Int) ≤ 300 := by omega
          have HI5 := Lib.hid (HI.out.skip (HKN.out i hiL hs3))
          clear HI hta hs3
          generalize (L[i]'hiL) = s at *
          go_wp2_with fail
          go_roundw
          case rel => exact ⟨i + 1, Xi, by go_num, by omega, by omega, HI5⟩
          case measure => simp [intOf]; omega
      · as_aux_lemma =>
        obtain rfl : i = 40 := by omega
        rw [show ((40 : Nat) : Int) = 40 from rfl]
        obtain ⟨S, eS, hmem⟩ := HI.out.kp.so
        obtain ⟨S', eS', ea, hP⟩ := OrX.is_some HI.out.hx
        rw [eS] at eS'
        cases eS'
        have HCO := Lib.hid (orCollide_any w.heap.size S.g S.l S.tv S.sv S.b S.D wr hP (by have := HI.out.fw S eS; omega))
        rw [← ea] at HCO
        have hkl := HKL.out 40
        have HMS := Lib.hid (HKS.out 40)
        have HOW := Lib.hid HI.out.ow
        have HBE := Lib.hid HI.out.bel
        have HM := Lib.hid hmem
        clear hmem HI hP ea eS HT HN HKN HKY HKL HKS
        generalize keepL L 40 = m at *
        obtain ⟨N, HNM⟩ : ∃ N, Hid (m.length = N) := ⟨_, Lib.hid rfl⟩
        rw [HNM.out] at HOW hc1 hkl
        simp only [HNM.out]
        cases hcf : colF S.l with
        | some r =>
          as_aux_lemma =>
          obtain ⟨sa, sb, hv, hma, hmb, hne, hse⟩ := told_some S.l m HM.out r hcf
          rw [hcf, hv] at HCO
          have HC0 := Lib.hid (cntL_zero m sa sb)
          have HCY := Lib.hid (cntL_yes m sa sb)
          have HCN := Lib.hid (cntL_no m sa sb)
          have HC2 := Lib.hid (cntL_two m sa sb hma hmb hne)
          have HCL := Lib.hid (cntL_le m sa sb)
          rw [HNM.out] at HC2
          have hab := ba_list_ne sa sb hne
          have HSA := Lib.hid (HSU.out sa (HMS.out sa hma))
          have HSB := Lib.hid (HSU.out sb (HMS.out sb hmb))
          have heq : ∀ w, (binOp .eql 34 (.agg (digA (sumL sa.data.toList))) (.agg (digA (sumL sb.data.toList)))).run Tryd.prog w = .ok (.bool true) w := fun w => by
            have := eql_dig2 (sumL sa.data.toList) (sumL sb.data.toList) (by with_unfolding_all exact sumL_len _) (by with_unfolding_all exact sumL_len _) w
            rw [show (sumL sa.data.toList == sumL sb.data.toList) = true from by simpa using hse] at this
            exact this
          clear hse hv hcf hne HSU
          obtain ⟨DA, HDA⟩ : ∃ DA, Hid (digA (sumL sa.data.toList) = DA) := ⟨_, Lib.hid rfl⟩
          obtain ⟨DB, HDB⟩ : ∃ DB, Hid (digA (sumL sb.data.toList) = DB) := ⟨_, Lib.hid rfl⟩
          rw [HDA.out] at HSA heq
          rw [HDB.out] at HSB heq
          clear HDA HDB
          go_wp2_with fail
          refine HCO.out.mono ?_
          rintro e w6 ⟨rfl, b6⟩
          have B6 := HBE.out.trans (b6.mono HBE.out.size)
          have O6 := Lib.hid (own_below' HOW.out b6)
          clear HCO HOW HBE b6
          go_wp2_with fail
          go_loop [10, 9] (fun x y => ∃ j : Nat, x = .int .i64 (j : Int) ∧ j ≤ N ∧ y = .int .i64 (cntL m sa sb j : Int)) (fun x _ => N - (intOf x).toNat)
          case atStart => exact ⟨0, rfl, by omega, by rw [HC0.out]; rfl⟩
          case round =>
            obtain ⟨j, rfl, hj, rfl⟩ := hrel
            by_cases hjn : j < N
            · have hjm : j < m.length := by rw [HNM.out]; exact hjn
              have hjn2 : (j : Int) < (N : Int) := by omega
              obtain ⟨g, rfl, hg, hcell⟩ := own_cell O6.out j hjm
              have hcl := HCL.out j
              have HY := Lib.hid (HCY.out j hjm)
              have HN := Lib.hid (HCN.out j hjm)
              generalize (m[j]'hjm) = s at *
              generalize cntL m sa sb j = cj at *
              have hcj : (cj : Int) + 1 ≤ 41 := by omega
              cases h1 : (s.toList == sa.toList) with
              | true =>
                as_aux_lemma =>
                rw [h1] at HY
                have HY2 := Lib.hid (HY.out (by rfl))
                clear HY HN
                go_wp2_with fail
                go_round
                case rel => exact ⟨j + 1, by go_num, by omega, by rw [HY2.out]; go_num⟩
                case measure => simp [intOf]; omega
              | false =>
                cases h2 : (s.toList == sb.toList) with
                | true =>
                  as_aux_lemma =>
                  rw [h1, h2] at HY
                  have HY2 := Lib.hid (HY.out (by rfl))
                  clear HY HN
                  go_wp2_with fail
                  go_round
                  case rel => exact ⟨j + 1, by go_num, by omega, by rw [HY2.out]; go_num⟩
                  case measure => simp [intOf]; omega
                | false =>
                  as_aux_lemma =>
                  rw [h1, h2] at HN
                  have HY2 := Lib.hid (HN.out (by rfl))
                  clear HY HN
                  go_wp2_with fail
                  go_round
                  case rel => exact ⟨j + 1, by go_num, by omega, by rw [HY2.out]⟩
                  case measure => simp [intOf]; omega
            · as_aux_lemma =>
              obtain rfl : j = N := by omega
              have h2 := HC2.out
              generalize cntL m sa sb j = cj at *
              have h22 : (2 : Int) ≤ (cj : Int) := by omega
              go_wp2_with fail
              refine (awake06 _ (hG.below B6)).mono ?_
              rintro e w7 ⟨rfl, b7⟩
              have B7 := B6.trans (b7.mono B6.size)
              go_wp2_with fail
              refine (HSA.out w7 (hG.below B7)).mono ?_
              rintro e w8 ⟨rfl, b8⟩
              have B8 := B7.trans (b8.mono B7.size)
              go_wp2_with fail
              refine (HSB.out w8 (hG.below B8)).mono ?_
              rintro e w9 ⟨rfl, b9⟩
              go_wp2_with fail
              go_ret
              exact ⟨rfl, B8.trans (b9.mono B8.size)⟩
        | none =>
          as_aux_lemma =>
          have HNO := Lib.hid (told_none S.l m HM.out hcf)
          rw [hcf, show colV S.l none = .tuple #[.string ⟨#[]⟩, .string ⟨#[]⟩, .bool false] from by with_unfolding_all rfl] at HCO
          clear hcf
          go_wp2_with fail
          refine HCO.out.mono ?_
          rintro e w6 ⟨rfl, b6⟩
          have B6 := HBE.out.trans (b6.mono HBE.out.size)
          have O6 := Lib.hid (own_below' HOW.out b6)
          clear HCO HOW HBE b6
          go_wp2_with fail
          go_loopw [11] (fun x wi => ∃ p : Nat, x = .int .i64 (p : Int) ∧ p ≤ N ∧ Hid (Below w6.heap.size w6 wi)) (fun x _ => N - (intOf x).toNat)
          case atStart => exact ⟨0, rfl, by omega, Lib.hid (Below.refl _ _)⟩
          case round =>
            obtain ⟨p, rfl, hp, HB⟩ := hrel
            by_cases hpn : p < N
            · as_aux_lemma =>
              have hpn2 : (p : Int) < (N : Int) := by omega
              have hpm : p < m.length := by rw [HNM.out]; exact hpn
              go_wp2_with fail
              go_loopw [12] (fun x wi => ∃ q : Nat, x = .int .i64 (q : Int) ∧ q ≤ p ∧ Hid (Below w6.heap.size w6 wi)) (fun x _ => p - (intOf x).toNat)
              case atStart => exact ⟨0, rfl, by omega, HB⟩
              clear HB
              case round =>
                obtain ⟨q, rfl, hq, HB⟩ := hrel
                by_cases hqp : q < p
                · as_aux_lemma =>
                  have hqp2 : (q : Int) < (p : Int) := by omega
                  have hqn2 : (q : Int) < (N : Int) := by omega
                  have hqm : q < m.length := by omega
                  obtain ⟨g, rfl, hg, hc6⟩ := own_cell O6.out p hpm
                  obtain ⟨g', e2, _, hd6⟩ := own_cell O6.out q hqm
                  cases e2
                  have hcp := (HB.out.cell (p := ⟨g, p, none⟩) hg).trans hc6
                  have hcq := (HB.out.cell (p := ⟨g, q, none⟩) hg).trans hd6
                  have hms := List.getElem_mem hpm
                  have hmt := List.getElem_mem hqm
                  clear hc6 hd6
                  generalize (m[p]'hpm) = s at *
                  generalize (m[q]'hqm) = t at *
                  cases hr : (s.toList == t.toList) with
                  | true =>
                    go_upto_region 24 with fail
                    refine wp_region_lin (S := (fun w' => w'.cell? ⟨g, p, none⟩ = some (.string s) ∧ w'.cell? ⟨g, q, none⟩ = some (.string t))) [(0, true), (1, true), (2, true), (3, true), (4, true), (5, true), (6, true), (7, true), (8, true), (9, true), (10, true), (11, true), (12, true), (13, true), (15, true), (16, true), (17, true), (18, true), (14, false), (19, false), (20, true), (21, true)] (by kernel_rfl) (by kernel_rfl) rfl (by kernel_rfl) ?_ (fun hHeld => ?_)
                    · (try dsimp only); exact ⟨hcp, hcq⟩
                    refine wpL_calm (o := { dst := some 100, op := Go.Op.move (Go.Operand.tmp 4), type := 25, pos := "law.go:99", after := #[], guard := none }) (v := ?_) rfl (Or.inl ⟨by rfl, ?_⟩) ?_; rotate_left; (focus (intro w hSw; (try dsimp only at hSw); go_simp; (try (with_reducible rfl)); done)); try simp only [Act.put, List.setIfInBounds_toArray, List.set_cons_zero, List.set_cons_succ]
                    refine wpL_calm (o := { dst := some 101, op := Go.Op.move (Go.Operand.tmp 11), type := 3, pos := "law.go:99", after := #[], guard := none }) (v := ?_) rfl (Or.inl ⟨by rfl, ?_⟩) ?_; rotate_left; (focus (intro w hSw; (try dsimp only at hSw); go_simp; (try (with_reducible rfl)); done)); try simp only [Act.put, List.setIfInBounds_toArray, List.set_cons_zero, List.set_cons_succ]
                    refine wpL_calm (o := { dst := some 102, op := Go.Op.indexAddr 25 (Go.Operand.tmp 100) (Go.Operand.tmp 101), type := 0, pos := "law.go:99", after := #[{ on := 0, ground := Go.Ground.data }, { on := 1, ground := Go.Ground.data }], guard := none }) (v := ?_) rfl (Or.inl ⟨by rfl, ?_⟩) ?_; rotate_left; (focus (intro w hSw; (try dsimp only at hSw); go_simp; (try (with_reducible rfl)); done)); try simp only [Act.put, List.setIfInBounds_toArray, List.set_cons_zero, List.set_cons_succ]
                    refine wpL_calm (o := { dst := some 103, op := Go.Op.load 9 (Go.Operand.tmp 102), type := 9, pos := "law.go:99", after := #[{ on := 2, ground := Go.Ground.data }], guard := none }) (v := ?_) rfl (Or.inl ⟨by rfl, ?_⟩) ?_; rotate_left; (focus (intro w hSw; (try dsimp only at hSw); go_simp; (try (with_reducible rfl)); done)); try simp only [Act.put, List.setIfInBounds_toArray, List.set_cons_zero, List.set_cons_succ]
                    refine wpL_calm (o := { dst := some 104, op := Go.Op.move (Go.Operand.tmp 4), type := 25, pos := "law.go:99", after := #[], guard := none }) (v := ?_) rfl (Or.inl ⟨by rfl, ?_⟩) ?_; rotate_left; (focus (intro w hSw; (try dsimp only at hSw); go_simp; (try (with_reducible rfl)); done)); try simp only [Act.put, List.setIfInBounds_toArray, List.set_cons_zero, List.set_cons_succ]
                    refine wpL_calm (o := { dst := some 105, op := Go.Op.move (Go.Operand.tmp 12), type := 3, pos := "law.go:99", after := #[], guard := none }) (v := ?_) rfl (Or.inl ⟨by rfl, ?_⟩) ?_; rotate_left; (focus (intro w hSw; (try dsimp only at hSw); go_simp; (try (with_reducible rfl)); done)); try simp only [Act.put, List.setIfInBounds_toArray, List.set_cons_zero, List.set_cons_succ]
                    refine wpL_calm (o := { dst := some 106, op := Go.Op.indexAddr 25 (Go.Operand.tmp 104) (Go.Operand.tmp 105), type := 0, pos := "law.go:99", after := #[{ on := 4, ground := Go.Ground.data }, { on := 5, ground := Go.Ground.data }], guard := none }) (v := ?_) rfl (Or.inl ⟨by rfl, ?_⟩) ?_; rotate_left; (focus (intro w hSw; (try dsimp only at hSw); go_simp; (try (with_reducible rfl)); done)); try simp only [Act.put, List.setIfInBounds_toArray, List.set_cons_zero, List.set_cons_succ]
                    refine wpL_calm (o := { dst := some 107, op := Go.Op.load 9 (Go.Operand.tmp 106), type := 9, pos := "law.go:99", after := #[{ on := 6, ground := Go.Ground.data }], guard := none }) (v := ?_) rfl (Or.inl ⟨by rfl, ?_⟩) ?_; rotate_left; (focus (intro w hSw; (try dsimp only at hSw); go_simp; (try (with_reducible rfl)); done)); try simp only [Act.put, List.setIfInBounds_toArray, List.set_cons_zero, List.set_cons_succ]
                    refine wpL_calm (o := { dst := some 108, op := Go.Op.binOp Go.BinOp.neq 9 (Go.Operand.tmp 103) (Go.Operand.tmp 107) 9, type := 4, pos := "law.go:99", after := #[{ on := 3, ground := Go.Ground.data }, { on := 7, ground := Go.Ground.data }], guard := none }) (v := ?_) rfl (Or.inl ⟨by rfl, ?_⟩) ?_; rotate_left; (focus (intro w hSw; (try dsimp only at hSw); go_simp; (try (with_reducible rfl)); done)); try simp only [Act.put, List.setIfInBounds_toArray, List.set_cons_zero, List.set_cons_succ]
                    refine wpL_calm (o := { dst := some 109, op := Go.Op.move (Go.Operand.tmp 108), type := 4, pos := "law.go:99", after := #[{ on := 8, ground := Go.Ground.data }], guard := none }) (v := ?_) rfl (Or.inl ⟨by rfl, ?_⟩) ?_; rotate_left; (focus (intro w hSw; (try dsimp only at hSw); go_simp; (try (with_reducible rfl)); done)); try simp only [Act.put, List.setIfInBounds_toArray, List.set_cons_zero, List.set_cons_succ]
                    refine wpL_calm (o := { dst := some 110, op := Go.Op.move (Go.Operand.tmp 4), type := 25, pos := "law.go:99", after := #[{ on := 9, ground := Go.Ground.guard }], guard := some (9, true) }) (v := undef) rfl (Or.inr ⟨by rfl, rfl⟩) ?_; try simp only [Act.put, List.setIfInBounds_toArray, List.set_cons_zero, List.set_cons_succ]
                    refine wpL_calm (o := { dst := some 111, op := Go.Op.move (Go.Operand.tmp 11), type := 3, pos := "law.go:99", after := #[{ on := 9, ground := Go.Ground.guard }], guard := some (9, true) }) (v := undef) rfl (Or.inr ⟨by rfl, rfl⟩) ?_; try simp only [Act.put, List.setIfInBounds_toArray, List.set_cons_zero, List.set_cons_succ]
                    refine wpL_calm (o := { dst := some 112, op := Go.Op.indexAddr 25 (Go.Operand.tmp 110) (Go.Operand.tmp 111), type := 0, pos := "law.go:99", after := #[{ on := 10, ground := Go.Ground.data }, { on := 11, ground := Go.Ground.data }, { on := 9, ground := Go.Ground.guard }], guard := some (9, true) }) (v := undef) rfl (Or.inr ⟨by rfl, rfl⟩) ?_; try simp only [Act.put, List.setIfInBounds_toArray, List.set_cons_zero, List.set_cons_succ]
                    refine wpL_calm (o := { dst := some 113, op := Go.Op.load 9 (Go.Operand.tmp 112), type := 9, pos := "law.go:99", after := #[{ on := 12, ground := Go.Ground.data }, { on := 9, ground := Go.Ground.guard }], guard := some (9, true) }) (v := undef) rfl (Or.inr ⟨by rfl, rfl⟩) ?_; try simp only [Act.put, List.setIfInBounds_toArray, List.set_cons_zero, List.set_cons_succ]
                    refine wpL_calm (o := { dst := some 115, op := Go.Op.move (Go.Operand.tmp 4), type := 25, pos := "law.go:99", after := #[{ on := 9, ground := Go.Ground.guard }], guard := some (9, true) }) (v := undef) rfl (Or.inr ⟨by rfl, rfl⟩) ?_; try simp only [Act.put, List.setIfInBounds_toArray, List.set_cons_zero, List.set_cons_succ]
                    refine wpL_calm (o := { dst := some 116, op := Go.Op.move (Go.Operand.tmp 12), type := 3, pos := "law.go:99", after := #[{ on := 9, ground := Go.Ground.guard }], guard := some (9, true) }) (v := undef) rfl (Or.inr ⟨by rfl, rfl⟩) ?_; try simp only [Act.put, List.setIfInBounds_toArray, List.set_cons_zero, List.set_cons_succ]
                    refine wpL_calm (o := { dst := some 117, op := Go.Op.indexAddr 25 (Go.Operand.tmp 115) (Go.Operand.tmp 116), type := 0, pos := "law.go:99", after := #[{ on := 15, ground := Go.Ground.data }, { on := 16, ground := Go.Ground.data }, { on := 9, ground := Go.Ground.guard }], guard := some (9, true) }) (v := undef) rfl (Or.inr ⟨by rfl, rfl⟩) ?_; try simp only [Act.put, List.setIfInBounds_toArray, List.set_cons_zero, List.set_cons_succ]
                    refine wpL_calm (o := { dst := some 118, op := Go.Op.load 9 (Go.Operand.tmp 117), type := 9, pos := "law.go:99", after := #[{ on := 17, ground := Go.Ground.data }, { on := 9, ground := Go.Ground.guard }], guard := some (9, true) }) (v := undef) rfl (Or.inr ⟨by rfl, rfl⟩) ?_; try simp only [Act.put, List.setIfInBounds_toArray, List.set_cons_zero, List.set_cons_succ]
                    refine wpL_loud1 (o := { dst := some 114, op := Go.Op.call { callee := Go.Callee.value (Go.Operand.func 14), args := #[Go.Operand.tmp 113], argTypes := #[9] }, type := 34, pos := "law.go:99", after := #[{ on := 13, ground := Go.Ground.data }, { on := 9, ground := Go.Ground.chain }, { on := 9, ground := Go.Ground.guard }], guard := some (9, true) }) rfl (fun K hK => ?_)
                    go_simp
                    try go_wp2_with fail
                    refine hK.out _ _ ?_ (fun hHeld => ?_)
                    · (try dsimp only); exact ⟨hcp, hcq⟩
                    clear hK K
                    try simp only [Act.put, List.setIfInBounds_toArray, List.set_cons_zero, List.set_cons_succ]
                    refine wpL_loud1 (o := { dst := some 119, op := Go.Op.call { callee := Go.Callee.value (Go.Operand.func 14), args := #[Go.Operand.tmp 118], argTypes := #[9] }, type := 34, pos := "law.go:99", after := #[{ on := 18, ground := Go.Ground.data }, { on := 14, ground := Go.Ground.chain }, { on := 9, ground := Go.Ground.guard }], guard := some (9, true) }) rfl (fun K hK => ?_)
                    go_simp
                    try go_wp2_with fail
                    refine hK.out _ _ ?_ (fun hHeld => ?_)
                    · (try dsimp only); exact ⟨hcp, hcq⟩
                    clear hK K
                    try simp only [Act.put, List.setIfInBounds_toArray, List.set_cons_zero, List.set_cons_succ]
                    refine wpL_calm (o := { dst := some 120, op := Go.Op.binOp Go.BinOp.eql 34 (Go.Operand.tmp 114) (Go.Operand.tmp 119) 34, type := 4, pos := "law.go:99", after := #[{ on := 14, ground := Go.Ground.data }, { on := 19, ground := Go.Ground.data }, { on := 9, ground := Go.Ground.guard }], guard := some (9, true) }) (v := undef) rfl (Or.inr ⟨by rfl, rfl⟩) ?_; try simp only [Act.put, List.setIfInBounds_toArray, List.set_cons_zero, List.set_cons_succ]
                    refine wpL_calm (o := { dst := some 121, op := Go.Op.pick (Go.Operand.tmp 109) (Go.Operand.tmp 120) (Go.Operand.const (Go.Value.bool false)), type := 4, pos := "law.go:99", after := #[{ on := 9, ground := Go.Ground.data }, { on := 20, ground := Go.Ground.data }], guard := none }) (v := ?_) rfl (Or.inl ⟨by rfl, ?_⟩) ?_; rotate_left; (focus (intro w hSw; (try dsimp only at hSw); go_simp; (try (with_reducible rfl)); done)); try simp only [Act.put, List.setIfInBounds_toArray, List.set_cons_zero, List.set_cons_succ]
                    refine wpL_nil ?_
                    refine NoPanic.normal ?_
                    have B9 := Lib.hid (HB.out.drew)
                    go_wp2_with fail
                    go_roundw
                    case rel => exact ⟨q + 1, by go_num, by omega, B9⟩
                    case measure => simp [intOf]; omega
                  | false =>
                    have hne := ba_list_ne_inv s t hr
                    have hsu := HNO.out s hms t hmt hne
                    have heq : ∀ w, (binOp .eql 34 (.agg (digA (sumL s.data.toList))) (.agg (digA (sumL t.data.toList)))).run Tryd.prog w = .ok (.bool false) w := fun w => by
                      have := eql_dig2 (sumL s.data.toList) (sumL t.data.toList) (by with_unfolding_all exact sumL_len _) (by with_unfolding_all exact sumL_len _) w
                      rw [show (sumL s.data.toList == sumL t.data.toList) = false from by simpa using hsu] at this
                      exact this
                    have HSA := Lib.hid (HSU.out s (HMS.out s hms))
                    have HSB := Lib.hid (HSU.out t (HMS.out t hmt))
                    clear hne hsu hms hmt
                    obtain ⟨DA, HDA⟩ : ∃ DA, Hid (digA (sumL s.data.toList) = DA) := ⟨_, Lib.hid rfl⟩
                    obtain ⟨DB, HDB⟩ : ∃ DB, Hid (digA (sumL t.data.toList) = DB) := ⟨_, Lib.hid rfl⟩
                    rw [HDA.out] at HSA heq
                    rw [HDB.out] at HSB heq
                    clear HDA HDB
                    have BI := B6.trans (HB.out.mono B6.size)
                    have hgi := Nat.lt_of_lt_of_le hg HB.out.size
                    go_upto_region 24 with fail
                    refine wp_region_lin (S := (fun w' => w'.cell? ⟨g, p, none⟩ = some (.string s) ∧ w'.cell? ⟨g, q, none⟩ = some (.string t))) [(0, true), (1, true), (2, true), (3, true), (4, true), (5, true), (6, true), (7, true), (8, true), (9, true), (10, true), (11, true), (12, true), (13, true), (15, true), (16, true), (17, true), (18, true), (14, false), (19, false), (20, true), (21, true)] (by kernel_rfl) (by kernel_rfl) rfl (by kernel_rfl) ?_ (fun hHeld => ?_)
                    · (try dsimp only); exact ⟨hcp, hcq⟩
                    (refine wpL_calm (o := { dst := some 100, op := Go.Op.move (Go.Operand.tmp 4), type := 25, pos := "law.go:99", after := #[], guard := none }) (v := ?_) rfl (Or.inl ⟨by rfl, ?_⟩) ?_; rotate_left; (focus (intro w hSw; (try dsimp only at hSw); go_simp; (try (with_reducible rfl)); done)); try simp only [Act.put, List.setIfInBounds_toArray, List.set_cons_zero, List.set_cons_succ])
                    (refine wpL_calm (o := { dst := some 101, op := Go.Op.move (Go.Operand.tmp 11), type := 3, pos := "law.go:99", after := #[], guard := none }) (v := ?_) rfl (Or.inl ⟨by rfl, ?_⟩) ?_; rotate_left; (focus (intro w hSw; (try dsimp only at hSw); go_simp; (try (with_reducible rfl)); done)); try simp only [Act.put, List.setIfInBounds_toArray, List.set_cons_zero, List.set_cons_succ])
                    (refine wpL_calm (o := { dst := some 102, op := Go.Op.indexAddr 25 (Go.Operand.tmp 100) (Go.Operand.tmp 101), type := 0, pos := "law.go:99", after := #[{ on := 0, ground := Go.Ground.data }, { on := 1, ground := Go.Ground.data }], guard := none }) (v := ?_) rfl (Or.inl ⟨by rfl, ?_⟩) ?_; rotate_left; (focus (intro w hSw; (try dsimp only at hSw); go_simp; (try (with_reducible rfl)); done)); try simp only [Act.put, List.setIfInBounds_toArray, List.set_cons_zero, List.set_cons_succ])
                    (refine wpL_calm (o := { dst := some 103, op := Go.Op.load 9 (Go.Operand.tmp 102), type := 9, pos := "law.go:99", after := #[{ on := 2, ground := Go.Ground.data }], guard := none }) (v := ?_) rfl (Or.inl ⟨by rfl, ?_⟩) ?_; rotate_left; (focus (intro w hSw; (try dsimp only at hSw); go_simp; (try (with_reducible rfl)); done)); try simp only [Act.put, List.setIfInBounds_toArray, List.set_cons_zero, List.set_cons_succ])
                    (refine wpL_calm (o := { dst := some 104, op := Go.Op.move (Go.Operand.tmp 4), type := 25, pos := "law.go:99", after := #[], guard := none }) (v := ?_) rfl (Or.inl ⟨by rfl, ?_⟩) ?_; rotate_left; (focus (intro w hSw; (try dsimp only at hSw); go_simp; (try (with_reducible rfl)); done)); try simp only [Act.put, List.setIfInBounds_toArray, List.set_cons_zero, List.set_cons_succ])
                    (refine wpL_calm (o := { dst := some 105, op := Go.Op.move (Go.Operand.tmp 12), type := 3, pos := "law.go:99", after := #[], guard := none }) (v := ?_) rfl (Or.inl ⟨by rfl, ?_⟩) ?_; rotate_left; (focus (intro w hSw; (try dsimp only at hSw); go_simp; (try (with_reducible rfl)); done)); try simp only [Act.put, List.setIfInBounds_toArray, List.set_cons_zero, List.set_cons_succ])
                    (refine wpL_calm (o := { dst := some 106, op := Go.Op.indexAddr 25 (Go.Operand.tmp 104) (Go.Operand.tmp 105), type := 0, pos := "law.go:99", after := #[{ on := 4, ground := Go.Ground.data }, { on := 5, ground := Go.Ground.data }], guard := none }) (v := ?_) rfl (Or.inl ⟨by rfl, ?_⟩) ?_; rotate_left; (focus (intro w hSw; (try dsimp only at hSw); go_simp; (try (with_reducible rfl)); done)); try simp only [Act.put, List.setIfInBounds_toArray, List.set_cons_zero, List.set_cons_succ])
                    (refine wpL_calm (o := { dst := some 107, op := Go.Op.load 9 (Go.Operand.tmp 106), type := 9, pos := "law.go:99", after := #[{ on := 6, ground := Go.Ground.data }], guard := none }) (v := ?_) rfl (Or.inl ⟨by rfl, ?_⟩) ?_; rotate_left; (focus (intro w hSw; (try dsimp only at hSw); go_simp; (try (with_reducible rfl)); done)); try simp only [Act.put, List.setIfInBounds_toArray, List.set_cons_zero, List.set_cons_succ])
                    (refine wpL_calm (o := { dst := some 108, op := Go.Op.binOp Go.BinOp.neq 9 (Go.Operand.tmp 103) (Go.Operand.tmp 107) 9, type := 4, pos := "law.go:99", after := #[{ on := 3, ground := Go.Ground.data }, { on := 7, ground := Go.Ground.data }], guard := none }) (v := ?_) rfl (Or.inl ⟨by rfl, ?_⟩) ?_; rotate_left; (focus (intro w hSw; (try dsimp only at hSw); go_simp; (try (with_reducible rfl)); done)); try simp only [Act.put, List.setIfInBounds_toArray, List.set_cons_zero, List.set_cons_succ])
                    (refine wpL_calm (o := { dst := some 109, op := Go.Op.move (Go.Operand.tmp 108), type := 4, pos := "law.go:99", after := #[{ on := 8, ground := Go.Ground.data }], guard := none }) (v := ?_) rfl (Or.inl ⟨by rfl, ?_⟩) ?_; rotate_left; (focus (intro w hSw; (try dsimp only at hSw); go_simp; (try (with_reducible rfl)); done)); try simp only [Act.put, List.setIfInBounds_toArray, List.set_cons_zero, List.set_cons_succ])
                    first | (refine wpL_calm (o := { dst := some 110, op := Go.Op.move (Go.Operand.tmp 4), type := 25, pos := "law.go:99", after := #[{ on := 9, ground := Go.Ground.guard }], guard := some (9, true) }) (v := ?_) rfl (Or.inl ⟨by rfl, ?_⟩) ?_; rotate_left; (focus (intro w hSw; (try dsimp only at hSw); go_simp; (try (with_reducible rfl)); done)); try simp only [Act.put, List.setIfInBounds_toArray, List.set_cons_zero, List.set_cons_succ]) | (refine wpL_calm (o := { dst := some 110, op := Go.Op.move (Go.Operand.tmp 4), type := 25, pos := "law.go:99", after := #[{ on := 9, ground := Go.Ground.guard }], guard := some (9, true) }) (v := undef) rfl (Or.inr ⟨by rfl, rfl⟩) ?_; try simp only [Act.put, List.setIfInBounds_toArray, List.set_cons_zero, List.set_cons_succ])
                    first | (refine wpL_calm (o := { dst := some 111, op := Go.Op.move (Go.Operand.tmp 11), type := 3, pos := "law.go:99", after := #[{ on := 9, ground := Go.Ground.guard }], guard := some (9, true) }) (v := ?_) rfl (Or.inl ⟨by rfl, ?_⟩) ?_; rotate_left; (focus (intro w hSw; (try dsimp only at hSw); go_simp; (try (with_reducible rfl)); done)); try simp only [Act.put, List.setIfInBounds_toArray, List.set_cons_zero, List.set_cons_succ]) | (refine wpL_calm (o := { dst := some 111, op := Go.Op.move (Go.Operand.tmp 11), type := 3, pos := "law.go:99", after := #[{ on := 9, ground := Go.Ground.guard }], guard := some (9, true) }) (v := undef) rfl (Or.inr ⟨by rfl, rfl⟩) ?_; try simp only [Act.put, List.setIfInBounds_toArray, List.set_cons_zero, List.set_cons_succ])
                    first | (refine wpL_calm (o := { dst := some 112, op := Go.Op.indexAddr 25 (Go.Operand.tmp 110) (Go.Operand.tmp 111), type := 0, pos := "law.go:99", after := #[{ on := 10, ground := Go.Ground.data }, { on := 11, ground := Go.Ground.data }, { on := 9, ground := Go.Ground.guard }], guard := some (9, true) }) (v := ?_) rfl (Or.inl ⟨by rfl, ?_⟩) ?_; rotate_left; (focus (intro w hSw; (try dsimp only at hSw); go_simp; (try (with_reducible rfl)); done)); try simp only [Act.put, List.setIfInBounds_toArray, List.set_cons_zero, List.set_cons_succ]) | (refine wpL_calm (o := { dst := some 112, op := Go.Op.indexAddr 25 (Go.Operand.tmp 110) (Go.Operand.tmp 111), type := 0, pos := "law.go:99", after := #[{ on := 10, ground := Go.Ground.data }, { on := 11, ground := Go.Ground.data }, { on := 9, ground := Go.Ground.guard }], guard := some (9, true) }) (v := undef) rfl (Or.inr ⟨by rfl, rfl⟩) ?_; try simp only [Act.put, List.setIfInBounds_toArray, List.set_cons_zero, List.set_cons_succ])
                    first | (refine wpL_calm (o := { dst := some 113, op := Go.Op.load 9 (Go.Operand.tmp 112), type := 9, pos := "law.go:99", after := #[{ on := 12, ground := Go.Ground.data }, { on := 9, ground := Go.Ground.guard }], guard := some (9, true) }) (v := ?_) rfl (Or.inl ⟨by rfl, ?_⟩) ?_; rotate_left; (focus (intro w hSw; (try dsimp only at hSw); go_simp; (try (with_reducible rfl)); done)); try simp only [Act.put, List.setIfInBounds_toArray, List.set_cons_zero, List.set_cons_succ]) | (refine wpL_calm (o := { dst := some 113, op := Go.Op.load 9 (Go.Operand.tmp 112), type := 9, pos := "law.go:99", after := #[{ on := 12, ground := Go.Ground.data }, { on := 9, ground := Go.Ground.guard }], guard := some (9, true) }) (v := undef) rfl (Or.inr ⟨by rfl, rfl⟩) ?_; try simp only [Act.put, List.setIfInBounds_toArray, List.set_cons_zero, List.set_cons_succ])
                    first | (refine wpL_calm (o := { dst := some 115, op := Go.Op.move (Go.Operand.tmp 4), type := 25, pos := "law.go:99", after := #[{ on := 9, ground := Go.Ground.guard }], guard := some (9, true) }) (v := ?_) rfl (Or.inl ⟨by rfl, ?_⟩) ?_; rotate_left; (focus (intro w hSw; (try dsimp only at hSw); go_simp; (try (with_reducible rfl)); done)); try simp only [Act.put, List.setIfInBounds_toArray, List.set_cons_zero, List.set_cons_succ]) | (refine wpL_calm (o := { dst := some 115, op := Go.Op.move (Go.Operand.tmp 4), type := 25, pos := "law.go:99", after := #[{ on := 9, ground := Go.Ground.guard }], guard := some (9, true) }) (v := undef) rfl (Or.inr ⟨by rfl, rfl⟩) ?_; try simp only [Act.put, List.setIfInBounds_toArray, List.set_cons_zero, List.set_cons_succ])
                    first | (refine wpL_calm (o := { dst := some 116, op := Go.Op.move (Go.Operand.tmp 12), type := 3, pos := "law.go:99", after := #[{ on := 9, ground := Go.Ground.guard }], guard := some (9, true) }) (v := ?_) rfl (Or.inl ⟨by rfl, ?_⟩) ?_; rotate_left; (focus (intro w hSw; (try dsimp only at hSw); go_simp; (try (with_reducible rfl)); done)); try simp only [Act.put, List.setIfInBounds_toArray, List.set_cons_zero, List.set_cons_succ]) | (refine wpL_calm (o := { dst := some 116, op := Go.Op.move (Go.Operand.tmp 12), type := 3, pos := "law.go:99", after := #[{ on := 9, ground := Go.Ground.guard }], guard := some (9, true) }) (v := undef) rfl (Or.inr ⟨by rfl, rfl⟩) ?_; try simp only [Act.put, List.setIfInBounds_toArray, List.set_cons_zero, List.set_cons_succ])
                    first | (refine wpL_calm (o := { dst := some 117, op := Go.Op.indexAddr 25 (Go.Operand.tmp 115) (Go.Operand.tmp 116), type := 0, pos := "law.go:99", after := #[{ on := 15, ground := Go.Ground.data }, { on := 16, ground := Go.Ground.data }, { on := 9, ground := Go.Ground.guard }], guard := some (9, true) }) (v := ?_) rfl (Or.inl ⟨by rfl, ?_⟩) ?_; rotate_left; (focus (intro w hSw; (try dsimp only at hSw); go_simp; (try (with_reducible rfl)); done)); try simp only [Act.put, List.setIfInBounds_toArray, List.set_cons_zero, List.set_cons_succ]) | (refine wpL_calm (o := { dst := some 117, op := Go.Op.indexAddr 25 (Go.Operand.tmp 115) (Go.Operand.tmp 116), type := 0, pos := "law.go:99", after := #[{ on := 15, ground := Go.Ground.data }, { on := 16, ground := Go.Ground.data }, { on := 9, ground := Go.Ground.guard }], guard := some (9, true) }) (v := undef) rfl (Or.inr ⟨by rfl, rfl⟩) ?_; try simp only [Act.put, List.setIfInBounds_toArray, List.set_cons_zero, List.set_cons_succ])
                    first | (refine wpL_calm (o := { dst := some 118, op := Go.Op.load 9 (Go.Operand.tmp 117), type := 9, pos := "law.go:99", after := #[{ on := 17, ground := Go.Ground.data }, { on := 9, ground := Go.Ground.guard }], guard := some (9, true) }) (v := ?_) rfl (Or.inl ⟨by rfl, ?_⟩) ?_; rotate_left; (focus (intro w hSw; (try dsimp only at hSw); go_simp; (try (with_reducible rfl)); done)); try simp only [Act.put, List.setIfInBounds_toArray, List.set_cons_zero, List.set_cons_succ]) | (refine wpL_calm (o := { dst := some 118, op := Go.Op.load 9 (Go.Operand.tmp 117), type := 9, pos := "law.go:99", after := #[{ on := 17, ground := Go.Ground.data }, { on := 9, ground := Go.Ground.guard }], guard := some (9, true) }) (v := undef) rfl (Or.inr ⟨by rfl, rfl⟩) ?_; try simp only [Act.put, List.setIfInBounds_toArray, List.set_cons_zero, List.set_cons_succ])
                    refine wpL_loud1 (o := { dst := some 114, op := Go.Op.call { callee := Go.Callee.value (Go.Operand.func 14), args := #[Go.Operand.tmp 113], argTypes := #[9] }, type := 34, pos := "law.go:99", after := #[{ on := 13, ground := Go.Ground.data }, { on := 9, ground := Go.Ground.chain }, { on := 9, ground := Go.Ground.guard }], guard := some (9, true) }) rfl (fun K hK => ?_)
                    (go_simp; go_at_call 14; refine (HSA.out _ (hG.below BI.drew)).mono ?_; rintro e w7 ⟨rfl, b7⟩; have hp7 := (b7.cell (p := ⟨g, p, none⟩) hgi).trans (show wr.drew.cell? ⟨g, p, none⟩ = _ from hcp); have hq7 := (b7.cell (p := ⟨g, q, none⟩) hgi).trans (show wr.drew.cell? ⟨g, q, none⟩ = _ from hcq); have B7 := BI.drew.trans (b7.mono BI.size))
                    try go_wp2_with fail
                    refine hK.out _ _ ?_ (fun hHeld => ?_)
                    · (try dsimp only); exact ⟨hp7, hq7⟩
                    clear hK K
                    try simp only [Act.put, List.setIfInBounds_toArray, List.set_cons_zero, List.set_cons_succ]
                    refine wpL_loud1 (o := { dst := some 119, op := Go.Op.call { callee := Go.Callee.value (Go.Operand.func 14), args := #[Go.Operand.tmp 118], argTypes := #[9] }, type := 34, pos := "law.go:99", after := #[{ on := 18, ground := Go.Ground.data }, { on := 14, ground := Go.Ground.chain }, { on := 9, ground := Go.Ground.guard }], guard := some (9, true) }) rfl (fun K hK => ?_)
                    (go_simp; go_at_call 14; refine (HSB.out _ (hG.below B7)).mono ?_; rintro e w8 ⟨rfl, b8⟩)
                    try go_wp2_with fail
                    refine hK.out _ _ ?_ (fun hHeld => ?_)
                    · (try dsimp only); exact ⟨(b8.cell (p := ⟨g, p, none⟩) (Nat.lt_of_lt_of_le hgi b7.size)).trans hp7, (b8.cell (p := ⟨g, q, none⟩) (Nat.lt_of_lt_of_le hgi b7.size)).trans hq7⟩
                    clear hK K
                    try simp only [Act.put, List.setIfInBounds_toArray, List.set_cons_zero, List.set_cons_succ]
                    first | (refine wpL_calm (o := { dst := some 120, op := Go.Op.binOp Go.BinOp.eql 34 (Go.Operand.tmp 114) (Go.Operand.tmp 119) 34, type := 4, pos := "law.go:99", after := #[{ on := 14, ground := Go.Ground.data }, { on := 19, ground := Go.Ground.data }, { on := 9, ground := Go.Ground.guard }], guard := some (9, true) }) (v := ?_) rfl (Or.inl ⟨by rfl, ?_⟩) ?_; rotate_left; (focus (intro w hSw; (try dsimp only at hSw); go_simp; (try (with_reducible rfl)); done)); try simp only [Act.put, List.setIfInBounds_toArray, List.set_cons_zero, List.set_cons_succ]) | (refine wpL_calm (o := { dst := some 120, op := Go.Op.binOp Go.BinOp.eql 34 (Go.Operand.tmp 114) (Go.Operand.tmp 119) 34, type := 4, pos := "law.go:99", after := #[{ on := 14, ground := Go.Ground.data }, { on := 19, ground := Go.Ground.data }, { on := 9, ground := Go.Ground.guard }], guard := some (9, true) }) (v := undef) rfl (Or.inr ⟨by rfl, rfl⟩) ?_; try simp only [Act.put, List.setIfInBounds_toArray, List.set_cons_zero, List.set_cons_succ])
                    (refine wpL_calm (o := { dst := some 121, op := Go.Op.pick (Go.Operand.tmp 109) (Go.Operand.tmp 120) (Go.Operand.const (Go.Value.bool false)), type := 4, pos := "law.go:99", after := #[{ on := 9, ground := Go.Ground.data }, { on := 20, ground := Go.Ground.data }], guard := none }) (v := ?_) rfl (Or.inl ⟨by rfl, ?_⟩) ?_; rotate_left; (focus (intro w hSw; (try dsimp only at hSw); go_simp; (try (with_reducible rfl)); done)); try simp only [Act.put, List.setIfInBounds_toArray, List.set_cons_zero, List.set_cons_succ])
                    refine wpL_nil ?_
                    refine NoPanic.normal ?_
                    have B9 : Hid (Below w6.heap.size w6 w8) := Lib.hid ((HB.out.drew.trans (b7.mono HB.out.size)).trans (b8.mono (Nat.le_trans HB.out.size b7.size)))
                    go_wp2_with fail
                    go_roundw
                    case rel => exact ⟨q + 1, by go_num, by omega, B9⟩
                    case measure => simp [intOf]; omega
                · as_aux_lemma =>
                  obtain rfl : q = p := by omega
                  go_wp2_with fail
                  go_roundw
                  case rel => exact ⟨q + 1, by go_num, by omega, HB⟩
                  case measure => simp [intOf]; omega
            · as_aux_lemma =>
              obtain rfl : p = N := by omega
              have BW := B6.trans (HB.out.mono B6.size)
              go_wp2_with fail
              refine (awake06 _ (hG.below BW)).mono ?_
              rintro e w9 ⟨rfl, b9⟩
              have hem : ((⟨#[]⟩ : ByteArray) ++ (⟨#[]⟩ : ByteArray)).toList.isEmpty = true := by decide +kernel
              go_wp2_with fail
              go_ret
              exact ⟨rfl, BW.trans (b9.mono BW.size)⟩
    · as_aux_lemma =>
      have hli : ¬ (i : Int) < (n : Int) := by omega
      obtain ⟨S, eS, hmem⟩ := HI.out.kp.so
      obtain ⟨S', eS', ea, hP⟩ := OrX.is_some HI.out.hx
      rw [eS] at eS'
      cases eS'
      have HCO := Lib.hid (orCollide_any w.heap.size S.g S.l S.tv S.sv S.b S.D wr hP (by have := HI.out.fw S eS; omega))
      rw [← ea] at HCO
      have hkl := HKL.out i
      have HMS := Lib.hid (HKS.out i)
      have HOW := Lib.hid HI.out.ow
      have HBE := Lib.hid HI.out.bel
      have HM := Lib.hid hmem
      clear hmem HI hP ea eS HT HN HKN HKY HKL HKS
      generalize keepL L i = m at *
      obtain ⟨N, HNM⟩ : ∃ N, Hid (m.length = N) := ⟨_, Lib.hid rfl⟩
      rw [HNM.out] at HOW hc1 hkl
      simp only [HNM.out]
      cases hcf : colF S.l with
      | some r =>
        as_aux_lemma =>
        obtain ⟨sa, sb, hv, hma, hmb, hne, hse⟩ := told_some S.l m HM.out r hcf
        rw [hcf, hv] at HCO
        have HC0 := Lib.hid (cntL_zero m sa sb)
        have HCY := Lib.hid (cntL_yes m sa sb)
        have HCN := Lib.hid (cntL_no m sa sb)
        have HC2 := Lib.hid (cntL_two m sa sb hma hmb hne)
        have HCL := Lib.hid (cntL_le m sa sb)
        rw [HNM.out] at HC2
        have hab := ba_list_ne sa sb hne
        have HSA := Lib.hid (HSU.out sa (HMS.out sa hma))
        have HSB := Lib.hid (HSU.out sb (HMS.out sb hmb))
        have heq : ∀ w, (binOp .eql 34 (.agg (digA (sumL sa.data.toList))) (.agg (digA (sumL sb.data.toList)))).run Tryd.prog w = .ok (.bool true) w := fun w => by
          have := eql_dig2 (sumL sa.data.toList) (sumL sb.data.toList) (by with_unfolding_all exact sumL_len _) (by with_unfolding_all exact sumL_len _) w
          rw [show (sumL sa.data.toList == sumL sb.data.toList) = true from by simpa using hse] at this
          exact this
        clear hse hv hcf hne HSU
        obtain ⟨DA, HDA⟩ : ∃ DA, Hid (digA (sumL sa.data.toList) = DA) := ⟨_, Lib.hid rfl⟩
        obtain ⟨DB, HDB⟩ : ∃ DB, Hid (digA (sumL sb.data.toList) = DB) := ⟨_, Lib.hid rfl⟩
        rw [HDA.out] at HSA heq
        rw [HDB.out] at HSB heq
        clear HDA HDB
        go_wp2_with fail
        refine HCO.out.mono ?_
        rintro e w6 ⟨rfl, b6⟩
        have B6 := HBE.out.trans (b6.mono HBE.out.size)
        have O6 := Lib.hid (own_below' HOW.out b6)
        clear HCO HOW HBE b6
        go_wp2_with fail
        go_loop [10, 9] (fun x y => ∃ j : Nat, x = .int .i64 (j : Int) ∧ j ≤ N ∧ y = .int .i64 (cntL m sa sb j : Int)) (fun x _ => N - (intOf x).toNat)
        case atStart => exact ⟨0, rfl, by omega, by rw [HC0.out]; rfl⟩
        case round =>
          obtain ⟨j, rfl, hj, rfl⟩ := hrel
          by_cases hjn : j < N
          · have hjm : j < m.length := by rw [HNM.out]; exact hjn
            have hjn2 : (j : Int) < (N : Int) := by omega
            obtain ⟨g, rfl, hg, hcell⟩ := own_cell O6.out j hjm
            have hcl := HCL.out j
            have HY := Lib.hid (HCY.out j hjm)
            have HN := Lib.hid (HCN.out j hjm)
            generalize (m[j]'hjm) = s at *
            generalize cntL m sa sb j = cj at *
            have hcj : (cj : Int) + 1 ≤ 41 := by omega
            cases h1 : (s.toList == sa.toList) with
            | true =>
              as_aux_lemma =>
              rw [h1] at HY
              have HY2 := Lib.hid (HY.out (by rfl))
              clear HY HN
              go_wp2_with fail
              go_round
              case rel => exact ⟨j + 1, by go_num, by omega, by rw [HY2.out]; go_num⟩
              case measure => simp [intOf]; omega
            | false =>
              cases h2 : (s.toList == sb.toList) with
              | true =>
                as_aux_lemma =>
                rw [h1, h2] at HY
                have HY2 := Lib.hid (HY.out (by rfl))
                clear HY HN
                go_wp2_with fail
                go_round
                case rel => exact ⟨j + 1, by go_num, by omega, by rw [HY2.out]; go_num⟩
                case measure => simp [intOf]; omega
              | false =>
                as_aux_lemma =>
                rw [h1, h2] at HN
                have HY2 := Lib.hid (HN.out (by rfl))
                clear HY HN
                go_wp2_with fail
                go_round
                case rel => exact ⟨j + 1, by go_num, by omega, by rw [HY2.out]⟩
                case measure => simp [intOf]; omega
          · as_aux_lemma =>
            obtain rfl : j = N := by omega
            have h2 := HC2.out
            generalize cntL m sa sb j = cj at *
            have h22 : (2 : Int) ≤ (cj : Int) := by omega
            go_wp2_with fail
            refine (awake06 _ (hG.below B6)).mono ?_
            rintro e w7 ⟨rfl, b7⟩
            have B7 := B6.trans (b7.mono B6.size)
            go_wp2_with fail
            refine (HSA.out w7 (hG.below B7)).mono ?_
            rintro e w8 ⟨rfl, b8⟩
            have B8 := B7.trans (b8.mono B7.size)
            go_wp2_with fail
            refine (HSB.out w8 (hG.below B8)).mono ?_
            rintro e w9 ⟨rfl, b9⟩
            go_wp2_with fail
            go_ret
            exact ⟨rfl, B8.trans (b9.mono B8.size)⟩
      | none =>
        as_aux_lemma =>
        have HNO := Lib.hid (told_none S.l m HM.out hcf)
        rw [hcf, show colV S.l none = .tuple #[.string ⟨#[]⟩, .string ⟨#[]⟩, .bool false] from by with_unfolding_all rfl] at HCO
        clear hcf
        go_wp2_with fail
        refine HCO.out.mono ?_
        rintro e w6 ⟨rfl, b6⟩
        have B6 := HBE.out.trans (b6.mono HBE.out.size)
        have O6 := Lib.hid (own_below' HOW.out b6)
        clear HCO HOW HBE b6
        go_wp2_with fail
        go_loopw [11] (fun x wi => ∃ p : Nat, x = .int .i64 (p : Int) ∧ p ≤ N ∧ Hid (Below w6.heap.size w6 wi)) (fun x _ => N - (intOf x).toNat)
        case atStart => exact ⟨0, rfl, by omega, Lib.hid (Below.refl _ _)⟩
        case round =>
          obtain ⟨p, rfl, hp, HB⟩ := hrel
          by_cases hpn : p < N
          · as_aux_lemma =>
            have hpn2 : (p : Int) < (N : Int) := by omega
            have hpm : p < m.length := by rw [HNM.out]; exact hpn
            go_wp2_with fail
            go_loopw [12] (fun x wi => ∃ q : Nat, x = .int .i64 (q : Int) ∧ q ≤ p ∧ Hid (Below w6.heap.size w6 wi)) (fun x _ => p - (intOf x).toNat)
            case atStart => exact ⟨0, rfl, by omega, HB⟩
            clear HB
            case round =>
              obtain ⟨q, rfl, hq, HB⟩ := hrel
              by_cases hqp : q < p
              · as_aux_lemma =>
                have hqp2 : (q : Int) < (p : Int) := by omega
                have hqn2 : (q : Int) < (N : Int) := by omega
                have hqm : q < m.length := by omega
                obtain ⟨g, rfl, hg, hc6⟩ := own_cell O6.out p hpm
                obtain ⟨g', e2, _, hd6⟩ := own_cell O6.out q hqm
                cases e2
                have hcp := (HB.out.cell (p := ⟨g, p, none⟩) hg).trans hc6
                have hcq := (HB.out.cell (p := ⟨g, q, none⟩) hg).trans hd6
                have hms := List.getElem_mem hpm
                have hmt := List.getElem_mem hqm
                clear hc6 hd6
                generalize (m[p]'hpm) = s at *
                generalize (m[q]'hqm) = t at *
                cases hr : (s.toList == t.toList) with
                | true =>
                  go_upto_region 24 with fail
                  refine wp_region_lin (S := (fun w' => w'.cell? ⟨g, p, none⟩ = some (.string s) ∧ w'.cell? ⟨g, q, none⟩ = some (.string t))) [(0, true), (1, true), (2, true), (3, true), (4, true), (5, true), (6, true), (7, true), (8, true), (9, true), (10, true), (11, true), (12, true), (13, true), (15, true), (16, true), (17, true), (18, true), (14, false), (19, false), (20, true), (21, true)] (by kernel_rfl) (by kernel_rfl) rfl (by kernel_rfl) ?_ (fun hHeld => ?_)
                  · (try dsimp only); exact ⟨hcp, hcq⟩
                  refine wpL_calm (o := { dst := some 100, op := Go.Op.move (Go.Operand.tmp 4), type := 25, pos := "law.go:99", after := #[], guard := none }) (v := ?_) rfl (Or.inl ⟨by rfl, ?_⟩) ?_; rotate_left; (focus (intro w hSw; (try dsimp only at hSw); go_simp; (try (with_reducible rfl)); done)); try simp only [Act.put, List.setIfInBounds_toArray, List.set_cons_zero, List.set_cons_succ]
                  refine wpL_calm (o := { dst := some 101, op := Go.Op.move (Go.Operand.tmp 11), type := 3, pos := "law.go:99", after := #[], guard := none }) (v := ?_) rfl (Or.inl ⟨by rfl, ?_⟩) ?_; rotate_left; (focus (intro w hSw; (try dsimp only at hSw); go_simp; (try (with_reducible rfl)); done)); try simp only [Act.put, List.setIfInBounds_toArray, List.set_cons_zero, List.set_cons_succ]
                  refine wpL_calm (o := { dst := some 102, op := Go.Op.indexAddr 25 (Go.Operand.tmp 100) (Go.Operand.tmp 101), type := 0, pos := "law.go:99", after := #[{ on := 0, ground := Go.Ground.data }, { on := 1, ground := Go.Ground.data }], guard := none }) (v := ?_) rfl (Or.inl ⟨by rfl, ?_⟩) ?_; rotate_left; (focus (intro w hSw; (try dsimp only at hSw); go_simp; (try (with_reducible rfl)); done)); try simp only [Act.put, List.setIfInBounds_toArray, List.set_cons_zero, List.set_cons_succ]
                  refine wpL_calm (o := { dst := some 103, op := Go.Op.load 9 (Go.Operand.tmp 102), type := 9, pos := "law.go:99", after := #[{ on := 2, ground := Go.Ground.data }], guard := none }) (v := ?_) rfl (Or.inl ⟨by rfl, ?_⟩) ?_; rotate_left; (focus (intro w hSw; (try dsimp only at hSw); go_simp; (try (with_reducible rfl)); done)); try simp only [Act.put, List.setIfInBounds_toArray, List.set_cons_zero, List.set_cons_succ]
                  refine wpL_calm (o := { dst := some 104, op := Go.Op.move (Go.Operand.tmp 4), type := 25, pos := "law.go:99", after := #[], guard := none }) (v := ?_) rfl (Or.inl ⟨by rfl, ?_⟩) ?_; rotate_left; (focus (intro w hSw; (try dsimp only at hSw); go_simp; (try (with_reducible rfl)); done)); try simp only [Act.put, List.setIfInBounds_toArray, List.set_cons_zero, List.set_cons_succ]
                  refine wpL_calm (o := { dst := some 105, op := Go.Op.move (Go.Operand.tmp 12), type := 3, pos := "law.go:99", after := #[], guard := none }) (v := ?_) rfl (Or.inl ⟨by rfl, ?_⟩) ?_; rotate_left; (focus (intro w hSw; (try dsimp only at hSw); go_simp; (try (with_reducible rfl)); done)); try simp only [Act.put, List.setIfInBounds_toArray, List.set_cons_zero, List.set_cons_succ]
                  refine wpL_calm (o := { dst := some 106, op := Go.Op.indexAddr 25 (Go.Operand.tmp 104) (Go.Operand.tmp 105), type := 0, pos := "law.go:99", after := #[{ on := 4, ground := Go.Ground.data }, { on := 5, ground := Go.Ground.data }], guard := none }) (v := ?_) rfl (Or.inl ⟨by rfl, ?_⟩) ?_; rotate_left; (focus (intro w hSw; (try dsimp only at hSw); go_simp; (try (with_reducible rfl)); done)); try simp only [Act.put, List.setIfInBounds_toArray, List.set_cons_zero, List.set_cons_succ]
                  refine wpL_calm (o := { dst := some 107, op := Go.Op.load 9 (Go.Operand.tmp 106), type := 9, pos := "law.go:99", after := #[{ on := 6, ground := Go.Ground.data }], guard := none }) (v := ?_) rfl (Or.inl ⟨by rfl, ?_⟩) ?_; rotate_left; (focus (intro w hSw; (try dsimp only at hSw); go_simp; (try (with_reducible rfl)); done)); try simp only [Act.put, List.setIfInBounds_toArray, List.set_cons_zero, List.set_cons_succ]
                  refine wpL_calm (o := { dst := some 108, op := Go.Op.binOp Go.BinOp.neq 9 (Go.Operand.tmp 103) (Go.Operand.tmp 107) 9, type := 4, pos := "law.go:99", after := #[{ on := 3, ground := Go.Ground.data }, { on := 7, ground := Go.Ground.data }], guard := none }) (v := ?_) rfl (Or.inl ⟨by rfl, ?_⟩) ?_; rotate_left; (focus (intro w hSw; (try dsimp only at hSw); go_simp; (try (with_reducible rfl)); done)); try simp only [Act.put, List.setIfInBounds_toArray, List.set_cons_zero, List.set_cons_succ]
                  refine wpL_calm (o := { dst := some 109, op := Go.Op.move (Go.Operand.tmp 108), type := 4, pos := "law.go:99", after := #[{ on := 8, ground := Go.Ground.data }], guard := none }) (v := ?_) rfl (Or.inl ⟨by rfl, ?_⟩) ?_; rotate_left; (focus (intro w hSw; (try dsimp only at hSw); go_simp; (try (with_reducible rfl)); done)); try simp only [Act.put, List.setIfInBounds_toArray, List.set_cons_zero, List.set_cons_succ]
                  refine wpL_calm (o := { dst := some 110, op := Go.Op.move (Go.Operand.tmp 4), type := 25, pos := "law.go:99", after := #[{ on := 9, ground := Go.Ground.guard }], guard := some (9, true) }) (v := undef) rfl (Or.inr ⟨by rfl, rfl⟩) ?_; try simp only [Act.put, List.setIfInBounds_toArray, List.set_cons_zero, List.set_cons_succ]
                  refine wpL_calm (o := { dst := some 111, op := Go.Op.move (Go.Operand.tmp 11), type := 3, pos := "law.go:99", after := #[{ on := 9, ground := Go.Ground.guard }], guard := some (9, true) }) (v := undef) rfl (Or.inr ⟨by rfl, rfl⟩) ?_; try simp only [Act.put, List.setIfInBounds_toArray, List.set_cons_zero, List.set_cons_succ]
                  refine wpL_calm (o := { dst := some 112, op := Go.Op.indexAddr 25 (Go.Operand.tmp 110) (Go.Operand.tmp 111), type := 0, pos := "law.go:99", after := #[{ on := 10, ground := Go.Ground.data }, { on := 11, ground := Go.Ground.data }, { on := 9, ground := Go.Ground.guard }], guard := some (9, true) }) (v := undef) rfl (Or.inr ⟨by rfl, rfl⟩) ?_; try simp only [Act.put, List.setIfInBounds_toArray, List.set_cons_zero, List.set_cons_succ]
                  refine wpL_calm (o := { dst := some 113, op := Go.Op.load 9 (Go.Operand.tmp 112), type := 9, pos := "law.go:99", after := #[{ on := 12, ground := Go.Ground.data }, { on := 9, ground := Go.Ground.guard }], guard := some (9, true) }) (v := undef) rfl (Or.inr ⟨by rfl, rfl⟩) ?_; try simp only [Act.put, List.setIfInBounds_toArray, List.set_cons_zero, List.set_cons_succ]
                  refine wpL_calm (o := { dst := some 115, op := Go.Op.move (Go.Operand.tmp 4), type := 25, pos := "law.go:99", after := #[{ on := 9, ground := Go.Ground.guard }], guard := some (9, true) }) (v := undef) rfl (Or.inr ⟨by rfl, rfl⟩) ?_; try simp only [Act.put, List.setIfInBounds_toArray, List.set_cons_zero, List.set_cons_succ]
                  refine wpL_calm (o := { dst := some 116, op := Go.Op.move (Go.Operand.tmp 12), type := 3, pos := "law.go:99", after := #[{ on := 9, ground := Go.Ground.guard }], guard := some (9, true) }) (v := undef) rfl (Or.inr ⟨by rfl, rfl⟩) ?_; try simp only [Act.put, List.setIfInBounds_toArray, List.set_cons_zero, List.set_cons_succ]
                  refine wpL_calm (o := { dst := some 117, op := Go.Op.indexAddr 25 (Go.Operand.tmp 115) (Go.Operand.tmp 116), type := 0, pos := "law.go:99", after := #[{ on := 15, ground := Go.Ground.data }, { on := 16, ground := Go.Ground.data }, { on := 9, ground := Go.Ground.guard }], guard := some (9, true) }) (v := undef) rfl (Or.inr ⟨by rfl, rfl⟩) ?_; try simp only [Act.put, List.setIfInBounds_toArray, List.set_cons_zero, List.set_cons_succ]
                  refine wpL_calm (o := { dst := some 118, op := Go.Op.load 9 (Go.Operand.tmp 117), type := 9, pos := "law.go:99", after := #[{ on := 17, ground := Go.Ground.data }, { on := 9, ground := Go.Ground.guard }], guard := some (9, true) }) (v := undef) rfl (Or.inr ⟨by rfl, rfl⟩) ?_; try simp only [Act.put, List.setIfInBounds_toArray, List.set_cons_zero, List.set_cons_succ]
                  refine wpL_loud1 (o := { dst := some 114, op := Go.Op.call { callee := Go.Callee.value (Go.Operand.func 14), args := #[Go.Operand.tmp 113], argTypes := #[9] }, type := 34, pos := "law.go:99", after := #[{ on := 13, ground := Go.Ground.data }, { on := 9, ground := Go.Ground.chain }, { on := 9, ground := Go.Ground.guard }], guard := some (9, true) }) rfl (fun K hK => ?_)
                  go_simp
                  try go_wp2_with fail
                  refine hK.out _ _ ?_ (fun hHeld => ?_)
                  · (try dsimp only); exact ⟨hcp, hcq⟩
                  clear hK K
                  try simp only [Act.put, List.setIfInBounds_toArray, List.set_cons_zero, List.set_cons_succ]
                  refine wpL_loud1 (o := { dst := some 119, op := Go.Op.call { callee := Go.Callee.value (Go.Operand.func 14), args := #[Go.Operand.tmp 118], argTypes := #[9] }, type := 34, pos := "law.go:99", after := #[{ on := 18, ground := Go.Ground.data }, { on := 14, ground := Go.Ground.chain }, { on := 9, ground := Go.Ground.guard }], guard := some (9, true) }) rfl (fun K hK => ?_)
                  go_simp
                  try go_wp2_with fail
                  refine hK.out _ _ ?_ (fun hHeld => ?_)
                  · (try dsimp only); exact ⟨hcp, hcq⟩
                  clear hK K
                  try simp only [Act.put, List.setIfInBounds_toArray, List.set_cons_zero, List.set_cons_succ]
                  refine wpL_calm (o := { dst := some 120, op := Go.Op.binOp Go.BinOp.eql 34 (Go.Operand.tmp 114) (Go.Operand.tmp 119) 34, type := 4, pos := "law.go:99", after := #[{ on := 14, ground := Go.Ground.data }, { on := 19, ground := Go.Ground.data }, { on := 9, ground := Go.Ground.guard }], guard := some (9, true) }) (v := undef) rfl (Or.inr ⟨by rfl, rfl⟩) ?_; try simp only [Act.put, List.setIfInBounds_toArray, List.set_cons_zero, List.set_cons_succ]
                  refine wpL_calm (o := { dst := some 121, op := Go.Op.pick (Go.Operand.tmp 109) (Go.Operand.tmp 120) (Go.Operand.const (Go.Value.bool false)), type := 4, pos := "law.go:99", after := #[{ on := 9, ground := Go.Ground.data }, { on := 20, ground := Go.Ground.data }], guard := none }) (v := ?_) rfl (Or.inl ⟨by rfl, ?_⟩) ?_; rotate_left; (focus (intro w hSw; (try dsimp only at hSw); go_simp; (try (with_reducible rfl)); done)); try simp only [Act.put, List.setIfInBounds_toArray, List.set_cons_zero, List.set_cons_succ]
                  refine wpL_nil ?_
                  refine NoPanic.normal ?_
                  have B9 := Lib.hid (HB.out.drew)
                  go_wp2_with fail
                  go_roundw
                  case rel => exact ⟨q + 1, by go_num, by omega, B9⟩
                  case measure => simp [intOf]; omega
                | false =>
                  have hne := ba_list_ne_inv s t hr
                  have hsu := HNO.out s hms t hmt hne
                  have heq : ∀ w, (binOp .eql 34 (.agg (digA (sumL s.data.toList))) (.agg (digA (sumL t.data.toList)))).run Tryd.prog w = .ok (.bool false) w := fun w => by
                    have := eql_dig2 (sumL s.data.toList) (sumL t.data.toList) (by with_unfolding_all exact sumL_len _) (by with_unfolding_all exact sumL_len _) w
                    rw [show (sumL s.data.toList == sumL t.data.toList) = false from by simpa using hsu] at this
                    exact this
                  have HSA := Lib.hid (HSU.out s (HMS.out s hms))
                  have HSB := Lib.hid (HSU.out t (HMS.out t hmt))
                  clear hne hsu hms hmt
                  obtain ⟨DA, HDA⟩ : ∃ DA, Hid (digA (sumL s.data.toList) = DA) := ⟨_, Lib.hid rfl⟩
                  obtain ⟨DB, HDB⟩ : ∃ DB, Hid (digA (sumL t.data.toList) = DB) := ⟨_, Lib.hid rfl⟩
                  rw [HDA.out] at HSA heq
                  rw [HDB.out] at HSB heq
                  clear HDA HDB
                  have BI := B6.trans (HB.out.mono B6.size)
                  have hgi := Nat.lt_of_lt_of_le hg HB.out.size
                  go_upto_region 24 with fail
                  refine wp_region_lin (S := (fun w' => w'.cell? ⟨g, p, none⟩ = some (.string s) ∧ w'.cell? ⟨g, q, none⟩ = some (.string t))) [(0, true), (1, true), (2, true), (3, true), (4, true), (5, true), (6, true), (7, true), (8, true), (9, true), (10, true), (11, true), (12, true), (13, true), (15, true), (16, true), (17, true), (18, true), (14, false), (19, false), (20, true), (21, true)] (by kernel_rfl) (by kernel_rfl) rfl (by kernel_rfl) ?_ (fun hHeld => ?_)
                  · (try dsimp only); exact ⟨hcp, hcq⟩
                  (refine wpL_calm (o := { dst := some 100, op := Go.Op.move (Go.Operand.tmp 4), type := 25, pos := "law.go:99", after := #[], guard := none }) (v := ?_) rfl (Or.inl ⟨by rfl, ?_⟩) ?_; rotate_left; (focus (intro w hSw; (try dsimp only at hSw); go_simp; (try (with_reducible rfl)); done)); try simp only [Act.put, List.setIfInBounds_toArray, List.set_cons_zero, List.set_cons_succ])
                  (refine wpL_calm (o := { dst := some 101, op := Go.Op.move (Go.Operand.tmp 11), type := 3, pos := "law.go:99", after := #[], guard := none }) (v := ?_) rfl (Or.inl ⟨by rfl, ?_⟩) ?_; rotate_left; (focus (intro w hSw; (try dsimp only at hSw); go_simp; (try (with_reducible rfl)); done)); try simp only [Act.put, List.setIfInBounds_toArray, List.set_cons_zero, List.set_cons_succ])
                  (refine wpL_calm (o := { dst := some 102, op := Go.Op.indexAddr 25 (Go.Operand.tmp 100) (Go.Operand.tmp 101), type := 0, pos := "law.go:99", after := #[{ on := 0, ground := Go.Ground.data }, { on := 1, ground := Go.Ground.data }], guard := none }) (v := ?_) rfl (Or.inl ⟨by rfl, ?_⟩) ?_; rotate_left; (focus (intro w hSw; (try dsimp only at hSw); go_simp; (try (with_reducible rfl)); done)); try simp only [Act.put, List.setIfInBounds_toArray, List.set_cons_zero, List.set_cons_succ])
                  (refine wpL_calm (o := { dst := some 103, op := Go.Op.load 9 (Go.Operand.tmp 102), type := 9, pos := "law.go:99", after := #[{ on := 2, ground := Go.Ground.data }], guard := none }) (v := ?_) rfl (Or.inl ⟨by rfl, ?_⟩) ?_; rotate_left; (focus (intro w hSw; (try dsimp only at hSw); go_simp; (try (with_reducible rfl)); done)); try simp only [Act.put, List.setIfInBounds_toArray, List.set_cons_zero, List.set_cons_succ])
                  (refine wpL_calm (o := { dst := some 104, op := Go.Op.move (Go.Operand.tmp 4), type := 25, pos := "law.go:99", after := #[], guard := none }) (v := ?_) rfl (Or.inl ⟨by rfl, ?_⟩) ?_; rotate_left; (focus (intro w hSw; (try dsimp only at hSw); go_simp; (try (with_reducible rfl)); done)); try simp only [Act.put, List.setIfInBounds_toArray, List.set_cons_zero, List.set_cons_succ])
                  (refine wpL_calm (o := { dst := some 105, op := Go.Op.move (Go.Operand.tmp 12), type := 3, pos := "law.go:99", after := #[], guard := none }) (v := ?_) rfl (Or.inl ⟨by rfl, ?_⟩) ?_; rotate_left; (focus (intro w hSw; (try dsimp only at hSw); go_simp; (try (with_reducible rfl)); done)); try simp only [Act.put, List.setIfInBounds_toArray, List.set_cons_zero, List.set_cons_succ])
                  (refine wpL_calm (o := { dst := some 106, op := Go.Op.indexAddr 25 (Go.Operand.tmp 104) (Go.Operand.tmp 105), type := 0, pos := "law.go:99", after := #[{ on := 4, ground := Go.Ground.data }, { on := 5, ground := Go.Ground.data }], guard := none }) (v := ?_) rfl (Or.inl ⟨by rfl, ?_⟩) ?_; rotate_left; (focus (intro w hSw; (try dsimp only at hSw); go_simp; (try (with_reducible rfl)); done)); try simp only [Act.put, List.setIfInBounds_toArray, List.set_cons_zero, List.set_cons_succ])
                  (refine wpL_calm (o := { dst := some 107, op := Go.Op.load 9 (Go.Operand.tmp 106), type := 9, pos := "law.go:99", after := #[{ on := 6, ground := Go.Ground.data }], guard := none }) (v := ?_) rfl (Or.inl ⟨by rfl, ?_⟩) ?_; rotate_left; (focus (intro w hSw; (try dsimp only at hSw); go_simp; (try (with_reducible rfl)); done)); try simp only [Act.put, List.setIfInBounds_toArray, List.set_cons_zero, List.set_cons_succ])
                  (refine wpL_calm (o := { dst := some 108, op := Go.Op.binOp Go.BinOp.neq 9 (Go.Operand.tmp 103) (Go.Operand.tmp 107) 9, type := 4, pos := "law.go:99", after := #[{ on := 3, ground := Go.Ground.data }, { on := 7, ground := Go.Ground.data }], guard := none }) (v := ?_) rfl (Or.inl ⟨by rfl, ?_⟩) ?_; rotate_left; (focus (intro w hSw; (try dsimp only at hSw); go_simp; (try (with_reducible rfl)); done)); try simp only [Act.put, List.setIfInBounds_toArray, List.set_cons_zero, List.set_cons_succ])
                  (refine wpL_calm (o := { dst := some 109, op := Go.Op.move (Go.Operand.tmp 108), type := 4, pos := "law.go:99", after := #[{ on := 8, ground := Go.Ground.data }], guard := none }) (v := ?_) rfl (Or.inl ⟨by rfl, ?_⟩) ?_; rotate_left; (focus (intro w hSw; (try dsimp only at hSw); go_simp; (try (with_reducible rfl)); done)); try simp only [Act.put, List.setIfInBounds_toArray, List.set_cons_zero, List.set_cons_succ])
                  first | (refine wpL_calm (o := { dst := some 110, op := Go.Op.move (Go.Operand.tmp 4), type := 25, pos := "law.go:99", after := #[{ on := 9, ground := Go.Ground.guard }], guard := some (9, true) }) (v := ?_) rfl (Or.inl ⟨by rfl, ?_⟩) ?_; rotate_left; (focus (intro w hSw; (try dsimp only at hSw); go_simp; (try (with_reducible rfl)); done)); try simp only [Act.put, List.setIfInBounds_toArray, List.set_cons_zero, List.set_cons_succ]) | (refine wpL_calm (o := { dst := some 110, op := Go.Op.move (Go.Operand.tmp 4), type := 25, pos := "law.go:99", after := #[{ on := 9, ground := Go.Ground.guard }], guard := some (9, true) }) (v := undef) rfl (Or.inr ⟨by rfl, rfl⟩) ?_; try simp only [Act.put, List.setIfInBounds_toArray, List.set_cons_zero, List.set_cons_succ])
                  first | (refine wpL_calm (o := { dst := some 111, op := Go.Op.move (Go.Operand.tmp 11), type := 3, pos := "law.go:99", after := #[{ on := 9, ground := Go.Ground.guard }], guard := some (9, true) }) (v := ?_) rfl (Or.inl ⟨by rfl, ?_⟩) ?_; rotate_left; (focus (intro w hSw; (try dsimp only at hSw); go_simp; (try (with_reducible rfl)); done)); try simp only [Act.put, List.setIfInBounds_toArray, List.set_cons_zero, List.set_cons_succ]) | (refine wpL_calm (o := { dst := some 111, op := Go.Op.move (Go.Operand.tmp 11), type := 3, pos := "law.go:99", after := #[{ on := 9, ground := Go.Ground.guard }], guard := some (9, true) }) (v := undef) rfl (Or.inr ⟨by rfl, rfl⟩) ?_; try simp only [Act.put, List.setIfInBounds_toArray, List.set_cons_zero, List.set_cons_succ])
                  first | (refine wpL_calm (o := { dst := some 112, op := Go.Op.indexAddr 25 (Go.Operand.tmp 110) (Go.Operand.tmp 111), type := 0, pos := "law.go:99", after := #[{ on := 10, ground := Go.Ground.data }, { on := 11, ground := Go.Ground.data }, { on := 9, ground := Go.Ground.guard }], guard := some (9, true) }) (v := ?_) rfl (Or.inl ⟨by rfl, ?_⟩) ?_; rotate_left; (focus (intro w hSw; (try dsimp only at hSw); go_simp; (try (with_reducible rfl)); done)); try simp only [Act.put, List.setIfInBounds_toArray, List.set_cons_zero, List.set_cons_succ]) | (refine wpL_calm (o := { dst := some 112, op := Go.Op.indexAddr 25 (Go.Operand.tmp 110) (Go.Operand.tmp 111), type := 0, pos := "law.go:99", after := #[{ on := 10, ground := Go.Ground.data }, { on := 11, ground := Go.Ground.data }, { on := 9, ground := Go.Ground.guard }], guard := some (9, true) }) (v := undef) rfl (Or.inr ⟨by rfl, rfl⟩) ?_; try simp only [Act.put, List.setIfInBounds_toArray, List.set_cons_zero, List.set_cons_succ])
                  first | (refine wpL_calm (o := { dst := some 113, op := Go.Op.load 9 (Go.Operand.tmp 112), type := 9, pos := "law.go:99", after := #[{ on := 12, ground := Go.Ground.data }, { on := 9, ground := Go.Ground.guard }], guard := some (9, true) }) (v := ?_) rfl (Or.inl ⟨by rfl, ?_⟩) ?_; rotate_left; (focus (intro w hSw; (try dsimp only at hSw); go_simp; (try (with_reducible rfl)); done)); try simp only [Act.put, List.setIfInBounds_toArray, List.set_cons_zero, List.set_cons_succ]) | (refine wpL_calm (o := { dst := some 113, op := Go.Op.load 9 (Go.Operand.tmp 112), type := 9, pos := "law.go:99", after := #[{ on := 12, ground := Go.Ground.data }, { on := 9, ground := Go.Ground.guard }], guard := some (9, true) }) (v := undef) rfl (Or.inr ⟨by rfl, rfl⟩) ?_; try simp only [Act.put, List.setIfInBounds_toArray, List.set_cons_zero, List.set_cons_succ])
                  first | (refine wpL_calm (o := { dst := some 115, op := Go.Op.move (Go.Operand.tmp 4), type := 25, pos := "law.go:99", after := #[{ on := 9, ground := Go.Ground.guard }], guard := some (9, true) }) (v := ?_) rfl (Or.inl ⟨by rfl, ?_⟩) ?_; rotate_left; (focus (intro w hSw; (try dsimp only at hSw); go_simp; (try (with_reducible rfl)); done)); try simp only [Act.put, List.setIfInBounds_toArray, List.set_cons_zero, List.set_cons_succ]) | (refine wpL_calm (o := { dst := some 115, op := Go.Op.move (Go.Operand.tmp 4), type := 25, pos := "law.go:99", after := #[{ on := 9, ground := Go.Ground.guard }], guard := some (9, true) }) (v := undef) rfl (Or.inr ⟨by rfl, rfl⟩) ?_; try simp only [Act.put, List.setIfInBounds_toArray, List.set_cons_zero, List.set_cons_succ])
                  first | (refine wpL_calm (o := { dst := some 116, op := Go.Op.move (Go.Operand.tmp 12), type := 3, pos := "law.go:99", after := #[{ on := 9, ground := Go.Ground.guard }], guard := some (9, true) }) (v := ?_) rfl (Or.inl ⟨by rfl, ?_⟩) ?_; rotate_left; (focus (intro w hSw; (try dsimp only at hSw); go_simp; (try (with_reducible rfl)); done)); try simp only [Act.put, List.setIfInBounds_toArray, List.set_cons_zero, List.set_cons_succ]) | (refine wpL_calm (o := { dst := some 116, op := Go.Op.move (Go.Operand.tmp 12), type := 3, pos := "law.go:99", after := #[{ on := 9, ground := Go.Ground.guard }], guard := some (9, true) }) (v := undef) rfl (Or.inr ⟨by rfl, rfl⟩) ?_; try simp only [Act.put, List.setIfInBounds_toArray, List.set_cons_zero, List.set_cons_succ])
                  first | (refine wpL_calm (o := { dst := some 117, op := Go.Op.indexAddr 25 (Go.Operand.tmp 115) (Go.Operand.tmp 116), type := 0, pos := "law.go:99", after := #[{ on := 15, ground := Go.Ground.data }, { on := 16, ground := Go.Ground.data }, { on := 9, ground := Go.Ground.guard }], guard := some (9, true) }) (v := ?_) rfl (Or.inl ⟨by rfl, ?_⟩) ?_; rotate_left; (focus (intro w hSw; (try dsimp only at hSw); go_simp; (try (with_reducible rfl)); done)); try simp only [Act.put, List.setIfInBounds_toArray, List.set_cons_zero, List.set_cons_succ]) | (refine wpL_calm (o := { dst := some 117, op := Go.Op.indexAddr 25 (Go.Operand.tmp 115) (Go.Operand.tmp 116), type := 0, pos := "law.go:99", after := #[{ on := 15, ground := Go.Ground.data }, { on := 16, ground := Go.Ground.data }, { on := 9, ground := Go.Ground.guard }], guard := some (9, true) }) (v := undef) rfl (Or.inr ⟨by rfl, rfl⟩) ?_; try simp only [Act.put, List.setIfInBounds_toArray, List.set_cons_zero, List.set_cons_succ])
                  first | (refine wpL_calm (o := { dst := some 118, op := Go.Op.load 9 (Go.Operand.tmp 117), type := 9, pos := "law.go:99", after := #[{ on := 17, ground := Go.Ground.data }, { on := 9, ground := Go.Ground.guard }], guard := some (9, true) }) (v := ?_) rfl (Or.inl ⟨by rfl, ?_⟩) ?_; rotate_left; (focus (intro w hSw; (try dsimp only at hSw); go_simp; (try (with_reducible rfl)); done)); try simp only [Act.put, List.setIfInBounds_toArray, List.set_cons_zero, List.set_cons_succ]) | (refine wpL_calm (o := { dst := some 118, op := Go.Op.load 9 (Go.Operand.tmp 117), type := 9, pos := "law.go:99", after := #[{ on := 17, ground := Go.Ground.data }, { on := 9, ground := Go.Ground.guard }], guard := some (9, true) }) (v := undef) rfl (Or.inr ⟨by rfl, rfl⟩) ?_; try simp only [Act.put, List.setIfInBounds_toArray, List.set_cons_zero, List.set_cons_succ])
                  refine wpL_loud1 (o := { dst := some 114, op := Go.Op.call { callee := Go.Callee.value (Go.Operand.func 14), args := #[Go.Operand.tmp 113], argTypes := #[9] }, type := 34, pos := "law.go:99", after := #[{ on := 13, ground := Go.Ground.data }, { on := 9, ground := Go.Ground.chain }, { on := 9, ground := Go.Ground.guard }], guard := some (9, true) }) rfl (fun K hK => ?_)
                  (go_simp; go_at_call 14; refine (HSA.out _ (hG.below BI.drew)).mono ?_; rintro e w7 ⟨rfl, b7⟩; have hp7 := (b7.cell (p := ⟨g, p, none⟩) hgi).trans (show wr.drew.cell? ⟨g, p, none⟩ = _ from hcp); have hq7 := (b7.cell (p := ⟨g, q, none⟩) hgi).trans (show wr.drew.cell? ⟨g, q, none⟩ = _ from hcq); have B7 := BI.drew.trans (b7.mono BI.size))
                  try go_wp2_with fail
                  refine hK.out _ _ ?_ (fun hHeld => ?_)
                  · (try dsimp only); exact ⟨hp7, hq7⟩
                  clear hK K
                  try simp only [Act.put, List.setIfInBounds_toArray, List.set_cons_zero, List.set_cons_succ]
                  refine wpL_loud1 (o := { dst := some 119, op := Go.Op.call { callee := Go.Callee.value (Go.Operand.func 14), args := #[Go.Operand.tmp 118], argTypes := #[9] }, type := 34, pos := "law.go:99", after := #[{ on := 18, ground := Go.Ground.data }, { on := 14, ground := Go.Ground.chain }, { on := 9, ground := Go.Ground.guard }], guard := some (9, true) }) rfl (fun K hK => ?_)
                  (go_simp; go_at_call 14; refine (HSB.out _ (hG.below B7)).mono ?_; rintro e w8 ⟨rfl, b8⟩)
                  try go_wp2_with fail
                  refine hK.out _ _ ?_ (fun hHeld => ?_)
                  · (try dsimp only); exact ⟨(b8.cell (p := ⟨g, p, none⟩) (Nat.lt_of_lt_of_le hgi b7.size)).trans hp7, (b8.cell (p := ⟨g, q, none⟩) (Nat.lt_of_lt_of_le hgi b7.size)).trans hq7⟩
                  clear hK K
                  try simp only [Act.put, List.setIfInBounds_toArray, List.set_cons_zero, List.set_cons_succ]
                  first | (refine wpL_calm (o := { dst := some 120, op := Go.Op.binOp Go.BinOp.eql 34 (Go.Operand.tmp 114) (Go.Operand.tmp 119) 34, type := 4, pos := "law.go:99", after := #[{ on := 14, ground := Go.Ground.data }, { on := 19, ground := Go.Ground.data }, { on := 9, ground := Go.Ground.guard }], guard := some (9, true) }) (v := ?_) rfl (Or.inl ⟨by rfl, ?_⟩) ?_; rotate_left; (focus (intro w hSw; (try dsimp only at hSw); go_simp; (try (with_reducible rfl)); done)); try simp only [Act.put, List.setIfInBounds_toArray, List.set_cons_zero, List.set_cons_succ]) | (refine wpL_calm (o := { dst := some 120, op := Go.Op.binOp Go.BinOp.eql 34 (Go.Operand.tmp 114) (Go.Operand.tmp 119) 34, type := 4, pos := "law.go:99", after := #[{ on := 14, ground := Go.Ground.data }, { on := 19, ground := Go.Ground.data }, { on := 9, ground := Go.Ground.guard }], guard := some (9, true) }) (v := undef) rfl (Or.inr ⟨by rfl, rfl⟩) ?_; try simp only [Act.put, List.setIfInBounds_toArray, List.set_cons_zero, List.set_cons_succ])
                  (refine wpL_calm (o := { dst := some 121, op := Go.Op.pick (Go.Operand.tmp 109) (Go.Operand.tmp 120) (Go.Operand.const (Go.Value.bool false)), type := 4, pos := "law.go:99", after := #[{ on := 9, ground := Go.Ground.data }, { on := 20, ground := Go.Ground.data }], guard := none }) (v := ?_) rfl (Or.inl ⟨by rfl, ?_⟩) ?_; rotate_left; (focus (intro w hSw; (try dsimp only at hSw); go_simp; (try (with_reducible rfl)); done)); try simp only [Act.put, List.setIfInBounds_toArray, List.set_cons_zero, List.set_cons_succ])
                  refine wpL_nil ?_
                  refine NoPanic.normal ?_
                  have B9 : Hid (Below w6.heap.size w6 w8) := Lib.hid ((HB.out.drew.trans (b7.mono HB.out.size)).trans (b8.mono (Nat.le_trans HB.out.size b7.size)))
                  go_wp2_with fail
                  go_roundw
                  case rel => exact ⟨q + 1, by go_num, by omega, B9⟩
                  case measure => simp [intOf]; omega
              · as_aux_lemma =>
                obtain rfl : q = p := by omega
                go_wp2_with fail
                go_roundw
                case rel => exact ⟨q + 1, by go_num, by omega, HB⟩
                case measure => simp [intOf]; omega
          · as_aux_lemma =>
            obtain rfl : p = N := by omega
            have BW := B6.trans (HB.out.mono B6.size)
            go_wp2_with fail
            refine (awake06 _ (hG.below BW)).mono ?_
            rintro e w9 ⟨rfl, b9⟩
            have hem : ((⟨#[]⟩ : ByteArray) ++ (⟨#[]⟩ : ByteArray)).toList.isEmpty = true := by decide +kernel
            go_wp2_with fail
            go_ret
            exact ⟨rfl, BW.trans (b9.mono BW.size)⟩
section
variable {H : Type} {enc : TypeId × Value → H}
theorem oracleTells_walk (v0 : Value) (d0 : DataW H) (p0 : List MemPlace) (w : World) (hok0 : ∃ a len cap, v0 = .slice a len cap) (h0 : DataW.Trod enc Tryd.prog w 0 (fun _ => true) true 25 v0 d0 p0) (hG : Gl w) :
    Calls Tryd.prog 4 #[v0] w fun e w' => e = .returned (.bool true) ∧ Below w.heap.size w w' := by
  obtain ⟨la, n, c, rfl, hm, hS⟩ := open_strs (P := Tryd.prog) Tryd.underlying25 Tryd.underlying9 (by kernel_rfl) hok0 h0
  obtain ⟨L, hL, hT⟩ := txt_of hS
  unfold maxLen at hm
  exact oracleTells_body L la n c w hG hL (by omega) hT
end
end Go.Proofs.YtaneecmfgfkaaaaDoor
