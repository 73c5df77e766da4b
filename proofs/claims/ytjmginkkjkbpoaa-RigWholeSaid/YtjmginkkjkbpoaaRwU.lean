/- The law RigWhole. -/
import Derived.Test.YtjmginkkjkbpoaaRwT
namespace Go.Proofs.Ytjmginkkjkbpoaa
open Go.RowKit Go.Deep Go.ChangeShapes Go.WideShapes
set_option linter.unusedVariables false
set_option linter.unusedSimpArgs false
set_option maxRecDepth 100000 in
set_option maxHeartbeats 8000000 in
theorem rigWhole_body (ao : Option Addr) (n c : Nat) (w : World) (hn : n ≤ 140737488351232) (hA : ActsB w w.heap.size ao n) :
    Calls Try.prog 3 #[.slice ao n c] w fun e w' => e = .returned (.bool true) ∧ Below w.heap.size w w' := by
  have HA := Lib.hid hA
  clear hA
  have PZ := Lib.hid (fun w => zeros_any 96 w (by omega))
  rw [show ((96 : Nat) : Int) = 96 from rfl] at PZ
  obtain ⟨l0, hl0⟩ : ∃ l0, Hid ((⟨(List.replicate 96 (0 : UInt8)).toArray⟩ : ByteArray) = l0) := ⟨_, Lib.hid rfl⟩
  rw [hl0.out] at PZ
  go_enter Try.func3, Try.ntmps3
  go_wp2_with fail
  refine (rigNew_any _).mono ?_
  rintro e w1 ⟨p, rfl, hR, b1⟩
  have HR1 := Lib.hid hR
  have HB1 := Lib.hid b1
  clear hR b1
  go_wp2_with fail
  refine (awake12 _).mono ?_
  rintro e w2 ⟨rfl, b2⟩
  have HR2 := Lib.hid (HR1.out.below b2)
  have HB2 := Lib.hid (HB1.out.trans (b2.mono HB1.out.size))
  clear b2 HR1 HB1
  go_wp2_with fail
  refine (PZ.out _).mono ?_
  rintro e w3 ⟨rfl, b3⟩
  have HR3 := Lib.hid (HR2.out.below b3)
  have HB3 := Lib.hid (HB2.out.trans (b3.mono HB2.out.size))
  clear b3 HR2 HB2 PZ
  go_wp2_with fail
  refine (xNew_any _).mono ?_
  rintro e w4 ⟨x, g0, g1, S, rfl, hx, b4⟩
  have HP4 : Hid (Bp w.heap.size w3.heap.size w w4 p l0 0 x g0 g1) := Lib.hid ⟨by rw [← hl0.out]; exact Bo.start HR3.out HB3.out.size b4 hx, HB3.out.trans (b4.mono HB3.out.size)⟩
  clear hx b4 HR3 HB3 hl0
  generalize w3.heap.size = C at *
  go_upto_region 6 with fail
  go_wp2_with fail
  go_loopw [4, 6, 7, 8, 9] (fun l z s7 s8 s9 wi => ∃ (i : Nat) (last : ByteArray), l = .string last ∧ z = .int .i64 (i : Int) ∧ i ≤ n ∧ i ≤ 40 ∧ Hid (Bp w.heap.size C w wi p last (2 * i) x g0 g1)) (fun _ z _ _ _ _ => n - (intOf z).toNat)
  case atStart => exact ⟨0, l0, rfl, rfl, by omega, by omega, HP4⟩
  case round =>
    obtain ⟨i, last, rfl, rfl, hi, h40, HP⟩ := hrel
    clear HP4
    by_cases hlt : i < n
    · by_cases h4 : i < 40
      · have hli : (i : Int) < (n : Int) := by omega
        have hl4 : (i : Int) < 40 := by omega
        obtain ⟨b, off, rfl, hb, hall⟩ := HA.out (by omega)
        obtain ⟨k, d, ii, m, s, raw, X, Y, hr, hX, hY⟩ := hall i hlt
        unfold actL at hr
        have HRG := Lib.hid (fun (w' : World) (hb' : Below w.heap.size w w') j v hj => (hb'.cell (p := ⟨b, off + i * 12 + j, none⟩) hb).trans (hr j v hj))
        have HX := Lib.hid hX
        have HY := Lib.hid hY
        clear hr hall hX hY
        go_wp2_with (refine wpList_load_mid rfl _ _ rfl b (off + i * 12) rfl _ _ (HRG.out _ HP.out.lo) Try.underlying34 rfl act_info ?_)
        refine (few_any12 k d ii m s raw _ _ _ _ _ _ _).mono ?_
        rintro e w5 ⟨rfl, b5⟩
        have HP5 := Lib.hid (HP.out.below b5)
        clear HP b5
        by_cases hs : s.size < 300
        · rw [show decide ((s.size : Int) < 300) = true from decide_eq_true (by omega)]
          have c0 : w5.cell? ⟨b, off + i * 12, none⟩ = some (.int .i64 k) := HRG.out _ HP5.out.lo 0 _ rfl
          go_upto_if 42 with fail
          go_cut [4, 7] from 42 to 59 (fun s4 s7 wx => ∃ last' : ByteArray, s4 = .string last' ∧ (∃ v, s7 = v) ∧ Hid (Bp w.heap.size C w wx p last' (2 * i + 1) x g0 g1))
          case first =>
            by_cases h7 : k = 7
            · subst h7
              go_wp2_with (refine wpList_load_mid rfl _ _ rfl b (off + i * 12) rfl _ _ (HRG.out _ HP5.out.lo) Try.underlying34 rfl act_info ?_)
              refine (text12_any 7 d ii m s raw _ _ _ _ _ _ 96 _ hs (by omega)).mono ?_
              rintro e w6 ⟨rfl, b6⟩
              have HP6 := Lib.hid (HP5.out.below b6)
              clear HP5 b6 c0
              generalize textB s raw 96 = t
              go_wp2_with fail
              refine (HP6.out.set t (by omega)).mono ?_
              rintro e w7 ⟨z, rfl, h7⟩
              have HP7 := Lib.hid h7
              clear h7 HP6
              by_cases hz : z = 0
              · subst hz
                rw [if_pos rfl] at HP7
                go_wp2_with fail
                go_meet
                exact ⟨_, rfl, ⟨_, rfl⟩, HP7⟩
              · have hb7 : (z == 0) = false := by simpa using hz
                rw [if_neg hz] at HP7
                go_wp2_with fail
                go_meet
                exact ⟨_, rfl, ⟨_, rfl⟩, HP7⟩
            · have hb7 : (k == 7) = false := by simpa using h7
              go_wp2_with (refine wpList_load_mid rfl _ _ rfl b (off + i * 12) rfl _ _ (HRG.out _ HP5.out.lo) Try.underlying34 rfl act_info ?_)
              refine (HP5.out.do k d ii m s raw X Y hs (by omega) HX.out HY.out h7).mono ?_
              rintro e w6 ⟨bb, rfl, h6⟩
              have HP6 := Lib.hid h6
              clear h6 HP5 c0
              go_wp2_with fail
              go_meet
              exact ⟨_, rfl, ⟨_, rfl⟩, HP6⟩
          case rest =>
          obtain ⟨last', rfl, ⟨v7, rfl⟩, HP6⟩ := hcut
          clear HP5 c0
          go_wp2_with fail
          refine (HP6.out.reg (by omega)).mono ?_
          rintro e w7 ⟨t, z, rfl, hz, h7⟩
          have HP7 := Lib.hid h7
          clear h7 HP6
          by_cases h0 : z = 0
          · subst h0
            obtain rfl := hz rfl
            go_wp2_with fail
            go_roundw
            case rel => exact ⟨i + 1, t, rfl, by go_num, by omega, by omega, HP7⟩
            case measure => simp [intOf]; omega
          · have hb0 : (z == 0) = false := by simpa using h0
            clear hz
            go_wp2_with fail
            go_roundw
            case rel => exact ⟨i + 1, last', rfl, by go_num, by omega, by omega, HP7⟩
            case measure => simp [intOf]; omega
        · rw [show decide ((s.size : Int) < 300) = false from decide_eq_false (by omega)]
          go_wp2_with fail
          go_roundw
          case rel => exact ⟨i + 1, last, rfl, by go_num, by omega, by omega, Lib.hid (HP5.out.more (by omega))⟩
          case measure => simp [intOf]; omega
      · have hl4 : ¬ (i : Int) < 40 := by omega
        go_wp2_with fail
        refine (HP.out.crash (by omega)).mono ?_
        rintro e w5 ⟨rfl, _, H5⟩
        have H6 := Lib.hid H5
        clear H5 HP
        go_wp2_with fail
        refine (H6.out).mono ?_
        rintro e w6 ⟨rfl, b6⟩
        have H7 := Lib.hid b6
        clear b6
        go_wp2_with fail
        go_ret
        exact ⟨rfl, H7.out⟩
    · have hli : ¬ (i : Int) < (n : Int) := by omega
      go_wp2_with fail
      refine (HP.out.crash (by omega)).mono ?_
      rintro e w5 ⟨rfl, _, H5⟩
      have H6 := Lib.hid H5
      clear H5 HP
      go_wp2_with fail
      refine (H6.out).mono ?_
      rintro e w6 ⟨rfl, b6⟩
      have H7 := Lib.hid b6
      clear b6
      go_wp2_with fail
      go_ret
      exact ⟨rfl, H7.out⟩
theorem rigWhole_walk {H : Type} {enc : TypeId × Value → H} (v : Value) (d : DataW H) (p : List MemPlace) (w : World) (hok : ∃ a len cap, v = .slice a len cap) (h : DataW.Trod enc Try.prog w 0 (fun _ => true) true 22 v d p)
    (hsz : (DataW.weightsEach Try.prog ([22] ++ []) ([d] ++ [])).all (· ≤ reachBytes) = true) :
    Calls Try.prog 3 #[v] w fun e w' => e = .returned (.bool true) ∧ Below w.heap.size w w' := by
  obtain ⟨ao, n, c, rfl, hn, hA⟩ := open_acts12 hok h (fun n hn => by
    have := List.all_eq_true.1 hsz n (DataW.weights_mem_each (j := 0) (t := 22) (d := d) rfl rfl n hn)
    simpa using this)
  exact rigWhole_body ao n c w hn hA
end Go.Proofs.Ytjmginkkjkbpoaa
