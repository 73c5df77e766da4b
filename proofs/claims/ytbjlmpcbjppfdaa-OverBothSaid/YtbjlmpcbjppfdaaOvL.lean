/- Package over: OverDoes. -/
import Derived.Test.YtbjlmpcbjppfdaaOvK
namespace Go.Proofs.Ytbjlmpcbjppfdaa
open Go.RowKit Go.Deep Go.ChangeShapes Go.WideShapes
set_option linter.unusedVariables false
set_option linter.unusedSimpArgs false
set_option maxRecDepth 100000 in
set_option maxHeartbeats 8000000 in
theorem overDoes_any (w : World) (ax : Option Addr) (n cap : Nat) (As : List (Int × Pu)) (hn : n ≤ 9223372036854775807) (hA : AcAt w ax n As) : Calls Try.prog 3 #[.slice ax n cap] w fun e w' => e = .returned (.bool true) ∧ Below w.heap.size w w' := by
  have CN := Lib.hid (onew_any w)
  have HA := Lib.hid hA
  clear hA
  go_enter Try.func3, Try.ntmps3
  go_wp2_with fail
  refine CN.out.mono ?_
  rintro e w1 ⟨p, b, rfl, q1, b1⟩
  have HB1 := Lib.hid b1
  have HQ1 := Lib.hid q1
  clear q1 b1 CN
  go_wp2_with fail
  go_loopw [4, 5] (fun s4 s5 wi => ∃ (i b : Nat) (ao : Option Addr) (c : Nat) (L : List Pu), s5 = .int .i64 (i : Int) ∧ i ≤ 60 ∧ s4 = .slice ao L.length c ∧ L.length ≤ i ∧ Hid (Dw wi w.heap.size p b ao L) ∧ Hid (Below w.heap.size w wi)) (fun _ s5 _ => 60 - (intOf s5).toNat)
  case atStart => exact ⟨0, b, none, 0, [], rfl, by omega, rfl, by simp, Lib.hid ⟨HQ1.out, fun h => absurd h (by simp), fun g o s e => by cases e⟩, HB1⟩
  case round =>
    obtain ⟨i, b, ao, c, L, rfl, hi, rfl, hL, HD, HB⟩ := hrel
    clear HQ1 HB1
    by_cases hlt : i < n
    · by_cases h60 : i < 60
      · as_aux_lemma =>
        have hli : (i : Int) < (n : Int) := by omega
        have h6i : (i : Int) < 60 := by omega
        have hil : i < As.length := by rw [HA.out.1]; exact hlt
        obtain ⟨g, o, rfl, hg, hc⟩ := HA.out.2.2 (by omega)
        have c0 := (HB.out.cell (p := ⟨g, o + i * 3, none⟩) hg).trans (hc i hil).1
        have c1 := (HB.out.cell (p := ⟨g, o + i * 3 + 1, none⟩) hg).trans (hc i hil).2.1
        have c2 := (HB.out.cell (p := ⟨g, o + i * 3 + 2, none⟩) hg).trans (hc i hil).2.2
        have CD := Lib.hid (do_any (c := c) HD.out As[i].1 As[i].2.1 As[i].2.2 (HA.out.2.1 _ (List.getElem_mem hil)) (by omega))
        have hll := doL_len L As[i].1 (As[i].2.1, As[i].2.2)
        clear hc
        generalize As[i].1 = k at *
        generalize As[i].2.1 = a at *
        generalize As[i].2.2 = s at *
        generalize doL L k (a, s) = L' at *
        go_wp2_with fail
        refine CD.out.mono ?_
        rintro e w2 ⟨b', ao', c', rfl, q2, hb', k2, _⟩
        have HB2 := Lib.hid (HB.out.trans k2.below)
        have HQ2 := Lib.hid q2
        have CP := Lib.hid (oputs_any w.heap.size b' (some ⟨p, 0, none⟩) L' w2 (Or.inr ⟨p, rfl, q2.sh⟩) (by omega))
        clear q2 k2 CD c0 c1 c2 hb'
        go_wp2_with fail
        refine CP.out.mono ?_
        rintro e w3 ⟨v, rfl, hO, k3⟩
        obtain ⟨a1, c1, rfl, _, _, hpu⟩ := own_pu hO
        have HB3 := Lib.hid (HB2.out.trans (k3.mono HB2.out.size))
        have HQ3 := Lib.hid (HQ2.out.below k3)
        have CE := Lib.hid (osame_any L' L' a1 ao' L'.length c1 L'.length c' w3 rfl rfl (by omega) (by omega) hpu HQ3.out.pu)
        rw [decide_eq_true rfl] at CE
        clear hpu hO k3 CP HQ2
        go_wp2_with fail
        refine CE.out.mono ?_
        rintro e w4 ⟨rfl, k4⟩
        have HB4 := Lib.hid (HB3.out.trans (k4.mono HB3.out.size))
        have HQ4 := Lib.hid (HQ3.out.below k4)
        have CL := Lib.hid (olen_any HQ4.out.sh)
        have hne : ((L'.length : Int) != (L'.length : Int)) = false := by simp
        clear k4 CE HQ3
        go_wp2_with fail
        refine CL.out.mono ?_
        rintro e w4' ⟨rfl, rfl⟩
        go_wp2_with fail
        go_roundw
        case rel => exact ⟨i + 1, b', ao', c', L', by go_num, by omega, rfl, by omega, HQ4, HB4⟩
        case measure => simp [intOf]; omega
      · as_aux_lemma =>
        have hli : (i : Int) < (n : Int) := by omega
        have h6i : ¬ (i : Int) < 60 := by omega
        have CA := Lib.hid (awake16 wr)
        go_wp2_with fail
        refine CA.out.mono ?_
        rintro e w2 ⟨rfl, k2⟩
        have HB2 := Lib.hid (HB.out.trans (k2.mono HB.out.size))
        clear k2 CA
        go_wp2_with fail
        go_ret
        exact ⟨rfl, HB2.out⟩
    · as_aux_lemma =>
      have hli : ¬ (i : Int) < (n : Int) := by omega
      have CA := Lib.hid (awake16 wr)
      go_wp2_with fail
      refine CA.out.mono ?_
      rintro e w2 ⟨rfl, k2⟩
      have HB2 := Lib.hid (HB.out.trans (k2.mono HB.out.size))
      clear k2 CA
      go_wp2_with fail
      go_ret
      exact ⟨rfl, HB2.out⟩
section
variable {H : Type} {enc : TypeId × Value → H}
theorem overDoes_walk (v : Value) (d : DataW H) (p : List MemPlace) (w : World) (hv : ∃ a len cap, v = .slice a len cap) (h : DataW.Trod enc Try.prog w 0 (fun _ => true) true 22 v d p) :
    Calls Try.prog 3 #[v] w fun e w' => e = .returned (.bool true) ∧ Below w.heap.size w w' := by
  obtain ⟨ao, len, cap, As, rfl, hl, hm, hA⟩ := open_actsO hv h
  exact overDoes_any w ao len cap As (by unfold maxLen at hm; omega) hA
end
end Go.Proofs.Ytbjlmpcbjppfdaa
