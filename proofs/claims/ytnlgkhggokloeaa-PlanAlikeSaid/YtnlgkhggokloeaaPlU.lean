/- The law PlanAlike. -/
import Derived.Test.YtnlgkhggokloeaaPlS
namespace Go.Proofs.Ytnlgkhggokloeaa
open Go.ChangeShapes Go.WideShapes Go.Deep Go.RowKit
set_option linter.unusedVariables false
set_option linter.unusedSimpArgs false
theorem w64_small (q : Nat) (h : q ≤ 255) : wrap64 (q : Int) = (q : Int) := by unfold wrap64; omega
theorem toList_same (a : ByteArray) : (a.toList == a.toList) = true := by simp
set_option maxRecDepth 100000 in
set_option maxHeartbeats 16000000 in
theorem planAlike_any (s : ByteArray) (ao : Option Addr) (c : Nat) (L : List Rv) (asl : Option Addr) (ns cs : Nat) (zs : List Int) (w : World) (hs : s.size ≤ 1000000000000000) (hat : RsAt w ao L) (hn : L.length ≤ maxLen) (hz : IntRow .u8 w asl ns zs) (hns : ns ≤ maxLen) : Calls Try.prog 5 #[.string s, .slice ao L.length c, .slice asl ns cs] w fun e w' => e = .returned (.bool true) ∧ Below w.heap.size w w' := by
  have HAT := Lib.hid hat
  have HZ := Lib.hid hz
  have CF := Lib.hid (few_any ao c L w hat (by unfold maxLen at hn; omega))
  obtain ⟨n, hnn⟩ : ∃ n, Hid (L.length = n) := ⟨_, Lib.hid rfl⟩
  rw [hnn.out] at hn CF ⊢
  clear hat hz
  go_enter Try.func5, Try.ntmps5
  go_wp2_with fail
  refine CF.out.mono ?_
  rintro e w1 ⟨b, rfl, HF, hb1⟩
  have HB1 := Lib.hid hb1
  clear CF hb1
  cases b
  · as_aux_lemma =>
    go_wp2_with fail
    refine (awake32 w1).mono ?_
    rintro e w2 ⟨rfl, hb2⟩
    have HB2 := Lib.hid (HB1.out.trans (hb2.mono HB1.out.size))
    go_wp2_with fail
    go_ret
    exact ⟨rfl, HB2.out⟩
  · as_aux_lemma =>
    have hn10 : n ≤ 10 := by have := (HF.out rfl).1; rwa [hnn.out] at this
    have hal := allP_few (HF.out rfl)
    clear HF hn
    have CO := Lib.hid (of_any ao c L w1 (HAT.out.below HB1.out) (by rw [hnn.out]; omega) (by omega))
    unfold OfR at CO
    obtain ⟨E, HE⟩ : ∃ E, Hid (ofE L = E) := ⟨_, Lib.hid rfl⟩
    obtain ⟨P, HP⟩ : ∃ P, Hid (ofL L = P) := ⟨_, Lib.hid rfl⟩
    obtain ⟨m, hmm⟩ : ∃ m, Hid (P.length = m) := ⟨_, Lib.hid rfl⟩
    rw [hnn.out, HE.out, HP.out, hmm.out] at CO
    go_wp2_with fail
    refine CO.out.mono ?_
    rintro e w2 ⟨a2, c2, rfl, hpu2, hb2⟩
    have HB2 := Lib.hid (HB1.out.trans (hb2.mono HB1.out.size))
    have HP2 := Lib.hid hpu2
    clear CO HB1 hb2 hpu2
    by_cases hE : E = 0
    · as_aux_lemma =>
      subst hE
      have HPE : Hid (P = setAll [] (allP L)) := Lib.hid (by rw [← HP.out]; exact ofL_eq HE.out)
      have HOA := Lib.hid (allP_ok HE.out)
      have HOP : Hid (∀ p ∈ P, okP p = 0) := Lib.hid (by rw [HPE.out]; exact okP_all HOA.out)
      have hm9 : m ≤ 800 := by have := setAll_len [] (allP L); rw [← HPE.out, hmm.out] at this; simp at this; omega
      have CI := Lib.hid (image_any s false w2 hs)
      have hx : (imgO s false).size = 18432 := imgA_size s
      generalize imgO s false = x at *
      clear hs
      go_wp2_with fail
      refine CI.out.mono ?_
      rintro e w3 ⟨rfl, hb3⟩
      have HB3 := Lib.hid (HB2.out.trans (hb3.mono HB2.out.size))
      have HP3 := Lib.hid (HP2.out.below hb3)
      have he := errA_ok0 hx HOP.out
      have CA := Lib.hid (apply_any x a2 c2 P w3 (by omega) HP3.out (by rw [hmm.out]; omega))
      rw [he, hmm.out] at CA
      obtain ⟨T, HT⟩ : ∃ T, Hid (appA x P = T) := ⟨_, Lib.hid rfl⟩
      rw [HT.out] at CA
      have HTA : Hid (catF (layF (blkP x) (allP L)) = T) := Lib.hid (by rw [← app_eq hx HOA.out, ← app_all hx HOA.out, ← HPE.out, HT.out])
      have HTT : Hid (appA T P = T) := Lib.hid (by rw [← HT.out]; exact app_twice hx HOP.out)
      have hts : T.size = 18432 := by rw [← HT.out]; exact app_size he
      have HTM : Hid (misA T P = []) := Lib.hid (by rw [← HT.out, HPE.out]; exact mis_none hx HOA.out)
      have HPT : Hid (∀ Q, (∀ p ∈ Q, p ∈ P) → appA (appA x Q) P = T) := Lib.hid (fun Q hq => by rw [← HT.out, HPE.out]; exact app_part hx HOA.out (by rw [← HPE.out]; exact hq))
      have het := errA_ok0 hts HOP.out
      clear CI HB2 hb3 HP2
      go_wp2_with fail
      refine CA.out.mono ?_
      rintro e w4 ⟨rfl, hb4⟩
      have HB4 := Lib.hid (HB3.out.trans (hb4.mono HB3.out.size))
      have HP4 := Lib.hid (HP3.out.below hb4)
      have CL := Lib.hid (rall_any ao c L w4 (HAT.out.below HB4.out) (by rw [hnn.out]; omega) (by omega))
      rw [hnn.out] at CL
      clear CA HB3 HP3 hb4
      go_wp2_with fail
      refine CL.out.mono ?_
      rintro e w5 ⟨a5, c5, rfl, hpu5, hb5⟩
      have HB5 := Lib.hid (HB4.out.trans (hb5.mono HB4.out.size))
      have HP5 := Lib.hid (HP4.out.below hb5)
      have CR := Lib.hid (rapply_any x a5 c5 (allP L) w5 hx hpu5 (by omega) HOA.out)
      rw [HTA.out] at CR
      obtain ⟨na, hna⟩ : ∃ na, (allP L).length = na := ⟨_, rfl⟩
      rw [hna] at CR ⊢
      clear CL HB4 HP4 hb5 hpu5
      go_wp2_with fail
      refine CR.out.mono ?_
      rintro e w6 ⟨rfl, hb6⟩
      have HB6 := Lib.hid (HB5.out.trans (hb6.mono HB5.out.size))
      have HP6 := Lib.hid (HP5.out.below hb6)
      have CA := Lib.hid (apply_any T a2 c2 P w6 (by omega) HP6.out (by rw [hmm.out]; omega))
      rw [het, hmm.out, HTT.out] at CA
      clear CR HB5 HP5 hb6
      go_wp2_with fail
      refine CA.out.mono ?_
      rintro e w7 ⟨rfl, hb7⟩
      have HB7 := Lib.hid (HB6.out.trans (hb7.mono HB6.out.size))
      have HP7 := Lib.hid (HP6.out.below hb7)
      have CM := Lib.hid (missing_any T a2 c2 P w7 (by omega) HP7.out (by rw [hmm.out]; omega))
      unfold MisR at CM
      rw [het, hmm.out, HTM.out] at CM
      clear CA HB6 HP6 hb7
      go_wp2_with fail
      refine CM.out.mono ?_
      rintro e w8 ⟨a8, c8, rfl, _, hb8⟩
      have HB8 := Lib.hid (HB7.out.trans (hb8.mono HB7.out.size))
      have HP8 := Lib.hid (HP7.out.below hb8)
      rw [show ([] : List Int).length = 0 from rfl]
      clear CM HB7 HP7 hb8
      obtain ⟨i1, hi1, hy0, hy1, hy2⟩ := info_partsO info_putO
      go_wp2_with fail
      go_loopw [16, 17] (fun s16 s17 wi => ∃ (i : Nat) (Q : List Pu), s17 = .int .i64 (i : Int) ∧ i ≤ 20 ∧ (∃ a c, s16 = .slice a Q.length c) ∧ Q.length ≤ i ∧ Hid (∀ p ∈ Q, p ∈ P) ∧ Hid (PuO w8.heap.size wi s16 Q) ∧ Hid (Below w8.heap.size w8 wi)) (fun _ s17 _ => 20 - (intOf s17).toNat)
      case atStart => exact ⟨0, [], rfl, by omega, ⟨_, _, rfl⟩, by simp, Lib.hid (fun p hp => by simp at hp), Lib.hid (World.ownsRow_nil _ _ _ _), Lib.hid (Below.refl _ _)⟩
      case round =>
        obtain ⟨i, Q, rfl, hi, ⟨a7, c7, rfl⟩, hQ, HQ, HO, HB⟩ := hrel
        by_cases hgo : (i : Int) < (ns : Int) ∧ (i : Int) < 20 ∧ (0 : Int) < (m : Int)
        · as_aux_lemma =>
          obtain ⟨g1, g2, g3⟩ := hgo
          obtain ⟨gz, oz, rfl, hgz, hcz⟩ := HZ.out.2.2 (by omega)
          have HB0 := HB8.out.trans (HB.out.mono HB8.out.size)
          have z0 := (HB0.cell (p := ⟨gz, oz + i, none⟩) hgz).trans (hcz i (by omega))
          have hzw := HZ.out.2.1 i (by omega)
          obtain ⟨z, hzz⟩ : ∃ z, zs.getD i 0 = z := ⟨_, rfl⟩
          rw [hzz] at z0 hzw
          have hzb : 0 ≤ z ∧ z ≤ 255 := by
            have h2 : IntKind.u8.min ≤ z ∧ z ≤ IntKind.u8.max := by simpa [Lit.wf] using hzw
            rw [show IntKind.u8.min = 0 from by decide, show IntKind.u8.max = 255 from by decide] at h2
            exact h2
          obtain ⟨q, rfl⟩ : ∃ q : Nat, z = (q : Int) := ⟨z.toNat, by omega⟩
          have HW64 := Lib.hid (w64_small q (by omega))
          have g4 : 0 < m := by omega
          have g5 : ¬ m = 0 := by omega
          have g6 : ¬ (m : Int) = 0 := by omega
          obtain ⟨k, hk⟩ : ∃ k, q % m = k := ⟨_, rfl⟩
          have hkm : k < m := by rw [← hk]; exact Nat.mod_lt _ g4
          have hmod : (q : Int) % (m : Int) = (k : Int) := by rw [← hk]; first | exact (Int.natCast_emod q m).symm | exact (Int.ofNat_emod q m).symm | rfl
          have htm : Int.tmod (q : Int) (m : Int) = (k : Int) := by rw [Int.tmod_eq_emod_of_nonneg (by omega)]; exact hmod
          have hkmi : (k : Int) < (m : Int) := by omega
          have hkP : k < P.length := by rw [hmm.out]; exact hkm
          have HP9 := HP8.out.below HB.out
          obtain ⟨g, o, rfl, hg, hc⟩ := HP9 (by omega)
          have c0 := (hc k hkP).1
          have c1 := (hc k hkP).2
          have hmem := List.getElem_mem hkP
          clear hcz hc HP9 hzz hzw hzb
          generalize P[k] = y at *
          obtain ⟨yx, t⟩ := y
          have c0 : wr.cell? ⟨g, o + k * 2, none⟩ = some (.int .i64 yx) := c0
          have c1 : wr.cell? ⟨g, o + k * 2 + 1, none⟩ = some (.string t) := c1
          have HQ2 : Hid (∀ p ∈ Q ++ [(yx, t)], p ∈ P) := Lib.hid (fun p hp => by
            rcases List.mem_append.1 hp with hp | hp
            · exact HQ.out p hp
            · simp at hp; rw [hp]; exact hmem)
          have hbs := HB.out.size
          clear hmem hk
          have HQO : Hid (wr.ownsRow w8.heap.size 48 2 (.slice a7 Q.length c7) Q.length (puC Q)) := Lib.hid HO.out
          have hQ9 : Q.length ≤ 50000 := by omega
          have o1 : Q.length + 1 ≤ maxLen := by unfold maxLen; omega
          have o2 : (Q.length + 1) * 24 ≤ 140737488355328 := by omega
          have o3 : w8.heap.size ≤ (wr.alloc (.cells #[.int .i64 yx, .string t] 48)).heap.size := by simp; omega
          have o4 : (0 : Int) ≤ (k : Int) := by omega
          go_upto_region 16 with fail
          have hw64 := HW64.out
          go_wp2_with (at_builtin; refine wpList_append_own _ rfl _ _ 25 rfl w8.heap.size 48 i1 (.agg #[.int .i64 0, .string ⟨#[]⟩]) 2 24 Try.underlying25 hi1 hy0 hy1 hy2 rfl (by decide) _ Q.length (puC Q) rfl (HQO.out.alloc _) ⟨wr.heap.size, 0, none⟩ 1 1 [.int .i64 yx, .string t] rfl rfl (box_cells wr yx t) (box_one yx t) o1 o2 o3 ?_)
          intro v' w9 hown hgr _
          clear hw64
          have HB9 := Lib.hid ((HB.out.alloc hbs _).grown hgr (by simp; omega) (fun j e => (HQO.out.lt j e).1))
          have HO9 : Hid (PuO w8.heap.size w9 v' (Q ++ [(yx, t)])) := Lib.hid (by unfold PuO; rw [puC_snoc, List.length_append]; exact hown)
          obtain ⟨a', c', rfl, _, _, _⟩ := own_puM HO9.out
          clear hown hgr HO HB c0 c1 z0
          go_wp2_with fail
          go_roundw
          case rel => exact ⟨i + 1, Q ++ [(yx, t)], by go_num, by omega, ⟨_, _, rfl⟩, by simp; omega, HQ2, HO9, HB9⟩
          case measure => simp [intOf]; omega
        · as_aux_lemma =>
          obtain ⟨a', c', e9, _, _, HPQ⟩ := own_puM HO.out
          injection e9 with e1 e2 e3
          subst e1 e3
          have HB0 := Lib.hid (HB8.out.trans (HB.out.mono HB8.out.size))
          have HP9 := Lib.hid (HP8.out.below HB.out)
          have HOQ : Hid (∀ p ∈ Q, okP p = 0) := Lib.hid (fun p hp => HOP.out p (HQ.out p hp))
          have CQ := Lib.hid (apply_any x a7 c7 Q wr (by omega) HPQ.out (by omega))
          have hue := errA_ok0 hx HOQ.out
          have hus := app_size hue
          have HU := Lib.hid (HPT.out Q HQ.out)
          rw [hue] at CQ
          generalize appA x Q = U at *
          generalize Q.length = nq at *
          have CA := Lib.hid (fun w' h => apply_any U a2 c2 P w' (by omega) h (by rw [hmm.out]; omega))
          rw [errA_ok0 hus HOP.out, hmm.out, HU.out] at CA
          clear HB8 HP8 HB HO HPT HU
          have fin : Hid (∀ w9, Below w.heap.size w w9 → PuAt w9 a2 P → True) := Lib.hid (fun _ _ _ => trivial)
          rcases (show ¬ (i : Int) < (ns : Int) ∨ ((i : Int) < (ns : Int) ∧ ¬ (i : Int) < 20) ∨ ((i : Int) < (ns : Int) ∧ (i : Int) < 20 ∧ ¬ (0 : Int) < (m : Int)) by omega) with g1 | ⟨g1, g2⟩ | ⟨g1, g2, g3⟩
          all_goals as_aux_lemma =>
            go_wp2_with fail
            refine CQ.out.mono ?_
            rintro e w9 ⟨rfl, hb9⟩
            have HB9 := Lib.hid (HB0.out.trans (hb9.mono HB0.out.size))
            have CA9 := Lib.hid (CA.out w9 (HP9.out.below hb9))
            clear CQ CA hb9 HB0
            go_wp2_with fail
            refine CA9.out.mono ?_
            rintro e w10 ⟨rfl, hb10⟩
            have HB10 := Lib.hid (HB9.out.trans (hb10.mono HB9.out.size))
            clear CA9 hb10 HB9
            go_wp2_with fail
            refine (awake32 w10).mono ?_
            rintro e w11 ⟨rfl, hb11⟩
            have HB11 := Lib.hid (HB10.out.trans (hb11.mono HB10.out.size))
            clear hb11 HB10
            go_wp2_with fail
            go_ret
            exact ⟨by first | rfl | simp, HB11.out⟩
    · as_aux_lemma =>
      have hE1 : (E != 0) = true := by simpa using hE
      go_wp2_with fail
      refine (awake32 w2).mono ?_
      rintro e w3 ⟨rfl, hb3⟩
      have HB3 := Lib.hid (HB2.out.trans (hb3.mono HB2.out.size))
      go_wp2_with fail
      go_ret
      exact ⟨rfl, HB3.out⟩
section
variable {H : Type} {enc : TypeId × Value → H}
theorem planAlike_walk (s : ByteArray) (v : Value) (d : DataW H) (p : List MemPlace) (v2 : Value) (d2 : DataW H) (p2 : List MemPlace) (w : World) (hs : s.size ≤ 140737488351232) (hv : ∃ a len cap, v = .slice a len cap) (h : DataW.Trod enc Try.prog w 0 (fun _ => true) true 22 v d p) (hv2 : ∃ a len cap, v2 = .slice a len cap) (h2 : DataW.Trod enc Try.prog w 0 (fun _ => true) true 52 v2 d2 p2) :
    Calls Try.prog 5 #[.string s, v, v2] w fun e w' => e = .returned (.bool true) ∧ Below w.heap.size w w' := by
  obtain ⟨ao, cap, L, rfl, hm, hl, hA⟩ := open_recs hv h
  obtain ⟨asl, ns, cs, zs, rfl, hns, hz⟩ := open_int_row Try.underlying52 Try.underlying5 (by kernel_rfl) hv2 h2
  exact planAlike_any s ao cap L asl ns cs zs w (by omega) hA hm hz hns
end
end Go.Proofs.Ytnlgkhggokloeaa
