/- Slots: SlotsBack. -/
import Derived.Test.YthhgodfgigcacaaSmD
namespace Go.Proofs.Ythhgodfgigcacaa
open Go.RowKit Go.Deep Go.ChangeShapes Go.WideShapes
set_option linter.unusedVariables false
set_option linter.unusedSimpArgs false
theorem TAt.kt {w w' : World} {B b g n m : Nat} {T U : Nat → Sl} (h : TAt w g n T) (k : Kt B b w w') (hne : g ≠ b) : TAt w' g n T := World.rowIs.of_block h (k.other g h.lt hne)
set_option maxRecDepth 100000 in
set_option maxHeartbeats 32000000 in
theorem back_law (z : Nat) (ao ao2 : Option Addr) (len cap len2 cap2 : Nat) (w : World) (hz : z < 256) (hl : len ≤ 9223372036854775807) (hA : ActRow w ao len) (hl2 : len2 ≤ 9223372036854775807) (hA2 : ActRow w ao2 len2) : Calls Try.prog 5 #[.int .u8 (z : Int), .slice ao len cap, .slice ao2 len2 cap2] w fun e w' => e = .returned (.bool true) ∧ Below w.heap.size w w' := by
  obtain ⟨n, hn⟩ : ∃ n, z % 8 + 1 = n := ⟨_, rfl⟩
  have h1 : 1 ≤ n := by omega
  have h8 : n ≤ 8 := by omega
  have CN := Lib.hid (newT_ok n w h1 h8)
  have HA := Lib.hid hA
  have HA2 := Lib.hid hA2
  clear hA hA2
  go_enter Try.func5, Try.ntmps5
  go_upto_region 1 with fail
  go_cut [7] from 18 to 21 (fun s7 wx => s7 = .int .i64 (n : Int) ∧ w = wx)
  case first =>
    go_wp2_with fail
    go_meet
    exact ⟨by congr 1; omega, rfl⟩
  case rest =>
  obtain ⟨rfl, rfl⟩ := hcut
  clear hn
  go_wp2_with fail
  refine CN.out.mono ?_
  rintro e w1 ⟨g, rfl, q1, hg, b1⟩
  have HT1 := Lib.hid q1
  have HB1 := Lib.hid b1
  have CA := Lib.hid (awake22 w1)
  clear q1 b1 CN
  go_wp2_with fail
  refine CA.out.mono ?_
  rintro e w2 ⟨rfl, b2⟩
  have HT2 := Lib.hid (HT1.out.below b2)
  have HB2 := Lib.hid (HB1.out.trans (b2.mono HB1.out.size))
  have CR := Lib.hid (rnew_any n w2 h8)
  clear b2 CA HT1 HB1
  go_wp2_with fail
  refine CR.out.mono ?_
  rintro e w3 ⟨v3, rfl, l3, b3⟩
  have HT3 := Lib.hid (HT2.out.below b3)
  have HL3 : Hid (LAt w3 w.heap.size v3 n (fun _ => frS)) := Lib.hid (own_base22 l3 HB2.out.size)
  have HB3 := Lib.hid (HB2.out.trans (b3.mono HB2.out.size))
  have HI3 := Lib.hid (Inv.new n)
  clear b3 l3 CR HT2 HB2
  go_wp2_with fail
  go_loopw [10, 11] (fun s10 s11 wi => ∃ (k : Nat) (T : Nat → Sl), s11 = .int .i64 (k : Int) ∧ k ≤ len ∧ Hid (TAt wi g n T) ∧ Hid (LAt wi w.heap.size s10 n T) ∧ Hid (Inv n T) ∧ Hid (Below w.heap.size w wi)) (fun _ s11 _ => len - (intOf s11).toNat)
  case atStart => exact ⟨0, _, rfl, by omega, HT3, HL3, HI3, HB3⟩
  case round =>
    obtain ⟨k, T, rfl, hk, HT, HL, HI, HB⟩ := hrel
    clear HT3 HL3 HI3 HB3
    by_cases hgo : k < len ∧ k < 40
    · have hlt' : (k : Int) < (len : Int) := by omega
      have h50' : (k : Int) < 40 := by omega
      have hlt := hgo.1
      obtain ⟨b, off, rfl, hb, hcs⟩ := HA.out (by omega)
      obtain ⟨x, gr, t, m, v, d, c0, c1, c2, c3, c4, c5⟩ := hcs k hlt
      have d0 := (HB.out.cell (p := ⟨b, off + k * 6, none⟩) hb).trans c0
      have d1 := (HB.out.cell (p := ⟨b, off + k * 6 + 1, none⟩) hb).trans c1
      have d2 := (HB.out.cell (p := ⟨b, off + k * 6 + 2, none⟩) hb).trans c2
      have d3 := (HB.out.cell (p := ⟨b, off + k * 6 + 3, none⟩) hb).trans c3
      have d4 := (HB.out.cell (p := ⟨b, off + k * 6 + 4, none⟩) hb).trans c4
      have d5 := (HB.out.cell (p := ⟨b, off + k * 6 + 5, none⟩) hb).trans c5
      obtain ⟨al, cl, hv⟩ := own_form HL.out
      subst hv
      have CD := Lib.hid (ldo_any w.heap.size g n (.slice al n cl) T T x gr t m v d wr HT.out HL.out h8 hg HI.out)
      have HI2 := Lib.hid (HI.out.act x gr t m v d)
      clear hcs c0 c1 c2 c3 c4 c5
      go_wp2_with fail
      refine CD.out.mono ?_
      rintro e w5 ⟨v', bb, rfl, hbb, t5, l5, k5⟩
      obtain ⟨T', hT'⟩ : ∃ T', actT n T x gr t m v d = T' := ⟨_, rfl⟩
      rw [hT'] at t5 l5 HI2
      have HT5 := Lib.hid t5
      have HL5 := Lib.hid l5
      have HB5 := Lib.hid (HB.out.trans k5.below)
      obtain ⟨a5, c5, rfl⟩ := own_form l5
      clear t5 l5 k5 hT' CD HT HL HI HB hbb d0 d1 d2 d3 d4 d5
      go_wp2_with fail
      go_roundw
      case rel => exact ⟨k + 1, T', by go_num, by omega, HT5, HL5, HI2, HB5⟩
      case measure => simp [intOf]; omega
    · obtain ⟨wa, hwa⟩ : ∃ wa, wr = wa := ⟨_, rfl⟩
      rw [hwa] at HT HL HB ⊢
      clear hwa
      obtain ⟨al, cl, hv⟩ := own_form HL.out
      subst hv
      obtain ⟨S, hS, hacc, hTR⟩ := back_text HI.out h8
      have HAC := Lib.hid hacc
      have CB := bytesT_any g n T wa HT.out (fun k _ => HI.out.ok k)
      rw [hS] at CB
      have CB := Lib.hid CB
      clear hS hacc
      rcases (show ¬ (k : Int) < (len : Int) ∨ ((k : Int) < (len : Int) ∧ ¬ (k : Int) < 40) by omega) with hx | ⟨hx, hy⟩
      all_goals
        go_wp2_with fail
        refine CB.out.mono ?_
        rintro e w1 ⟨rfl, b1⟩
        have HT1 := Lib.hid (HT.out.below b1)
        have HL1 := Lib.hid (HL.out.below b1)
        have HB1 := Lib.hid (HB.out.trans (b1.mono HB.out.size))
        have CRD := Lib.hid (readT_any n S w1 h1 h8)
        clear b1 CB HT HL HB
        go_wp2_with fail
        refine CRD.out.mono ?_
        rintro e w2 ⟨hc, b2⟩
        rcases hc with ⟨_, gx, rfl, tx, hgx⟩ | ⟨hno, _⟩
        rotate_left
        · exact absurd HAC.out hno
        have HX2 : Hid (TAt w2 gx n T) := Lib.hid (tx.congr (fun k _ => hTR k))
        have HT2 := Lib.hid (HT1.out.below b2)
        have HL2 := Lib.hid (HL1.out.below b2)
        have HB2 := Lib.hid (HB1.out.trans (b2.mono HB1.out.size))
        have hggx : g ≠ gx := by have := HT1.out.lt; omega
        have hBgx : w.heap.size ≤ gx := Nat.le_trans HB1.out.size hgx
        have CC := Lib.hid (copyT_any g n T w2 HT2.out)
        clear b2 CRD HT1 HL1 HB1 tx hTR HAC
        go_wp2_with fail
        refine CC.out.mono ?_
        rintro e w3 ⟨gc, rfl, hgc, tc, b3⟩
        have HC3 := Lib.hid tc
        have HX3 := Lib.hid (HX2.out.below b3)
        have HT3 := Lib.hid (HT2.out.below b3)
        have HL3 := Lib.hid (HL2.out.below b3)
        have HB3 := Lib.hid (HB2.out.trans (b3.mono HB2.out.size))
        have hggc : gc ≠ g := by have := HT2.out.lt; omega
        have hgxc : gc ≠ gx := by have := HX2.out.lt; omega
        have CS := Lib.hid (lsame_any w.heap.size gx n (.slice al n cl) T w3 HX3.out HL3.out h8 HI.out)
        clear tc b3 CC HX2 HT2 HL2 HB2
        go_wp2_with fail
        refine CS.out.mono ?_
        rintro e w4 ⟨rfl, b4⟩
        have HC4 := Lib.hid (HC3.out.below b4)
        have HX4 := Lib.hid (HX3.out.below b4)
        have HT4 := Lib.hid (HT3.out.below b4)
        have HL4 := Lib.hid (HL3.out.below b4)
        have HB4 := Lib.hid (HB3.out.trans (b4.mono HB3.out.size))
        clear b4 CS HC3 HX3 HT3 HL3 HB3
        go_wp2_with fail
        go_loopw [10, 16, 17] (fun s10 s16 _ wi => ∃ (k : Nat) (U V : Nat → Sl), s16 = .int .i64 (k : Int) ∧ k ≤ len2 ∧ Hid (TAt wi gx n U) ∧ Hid (LAt wi w.heap.size s10 n U) ∧ Hid (Inv n U) ∧ Hid (TAt wi g n V) ∧ Hid (TAt wi gc n T) ∧ Hid (LAt wi w.heap.size (.slice al n cl) n T) ∧ Hid (Below w.heap.size w wi)) (fun _ s16 _ _ => len2 - (intOf s16).toNat)
        case atStart => exact ⟨0, T, T, rfl, by omega, HX4, HL4, HI, HT4, HC4, HL4, HB4⟩
        case round =>
          obtain ⟨k2, U, V, rfl, hk2, HX, HM, HU, HV, HC, HL, HB⟩ := hrel
          clear HX4 HT4 HC4 HL4 HB4
          by_cases hgo2 : k2 < len2 ∧ k2 < 20
          · have hlt' : (k2 : Int) < (len2 : Int) := by omega
            have h50' : (k2 : Int) < 20 := by omega
            have hlt := hgo2.1
            obtain ⟨b, off, rfl, hb, hcs⟩ := HA2.out (by omega)
            obtain ⟨x, gr, t, m, v, d, c0, c1, c2, c3, c4, c5⟩ := hcs k2 hlt
            have HCS : Hid (∀ W, Below w.heap.size w W → W.cell? ⟨b, off + k2 * 6, none⟩ = some (.int .i64 x) ∧ W.cell? ⟨b, off + k2 * 6 + 1, none⟩ = some (.int .i64 gr) ∧ W.cell? ⟨b, off + k2 * 6 + 2, none⟩ = some (.int .i64 t) ∧ W.cell? ⟨b, off + k2 * 6 + 3, none⟩ = some (.int .i64 m) ∧ W.cell? ⟨b, off + k2 * 6 + 4, none⟩ = some (.bool v) ∧ W.cell? ⟨b, off + k2 * 6 + 5, none⟩ = some (.bool d)) := Lib.hid (fun W hW => ⟨(hW.cell (p := ⟨b, off + k2 * 6, none⟩) hb).trans c0, (hW.cell (p := ⟨b, off + k2 * 6 + 1, none⟩) hb).trans c1, (hW.cell (p := ⟨b, off + k2 * 6 + 2, none⟩) hb).trans c2, (hW.cell (p := ⟨b, off + k2 * 6 + 3, none⟩) hb).trans c3, (hW.cell (p := ⟨b, off + k2 * 6 + 4, none⟩) hb).trans c4, (hW.cell (p := ⟨b, off + k2 * 6 + 5, none⟩) hb).trans c5⟩)
            obtain ⟨d0, d1, d2, d3, d4, d5⟩ := HCS.out wr HB.out
            obtain ⟨am, cm, hv⟩ := own_form HM.out
            subst hv
            have CD := Lib.hid (ldo_any w.heap.size gx n (.slice am n cm) U U x gr t m v d wr HX.out HM.out h8 hBgx HU.out)
            have HU2 := Lib.hid (HU.out.act x gr t m v d)
            clear hcs c0 c1 c2 c3 c4 c5
            go_wp2_with fail
            refine CD.out.mono ?_
            rintro e w5 ⟨v', bb, rfl, hbb, t5, l5, k5⟩
            obtain rfl : bb = true := hbb rfl
            obtain ⟨U', hU'⟩ : ∃ U', actT n U x gr t m v d = U' := ⟨_, rfl⟩
            rw [hU'] at t5 l5 HU2
            have HX5 := Lib.hid t5
            have HM5 := Lib.hid l5
            have HV5 := Lib.hid (HV.out.kt (m := 0) (U := T) k5 hggx)
            have HC5 := Lib.hid (HC.out.kt (m := 0) (U := T) k5 hgxc)
            have HL5 := Lib.hid (HL.out.kt k5 HX.out)
            have HB5 := Lib.hid (HB.out.trans k5.below)
            obtain ⟨a5, c5, rfl⟩ := own_form l5
            have CS := Lib.hid (lsame_any w.heap.size gx n (.slice a5 n c5) U' w5 t5 l5 h8 HU2.out)
            clear t5 l5 k5 hU' CD HX HM HU HV HC HL HB hbb d0 d1 d2 d3 d4 d5
            go_wp2_with fail
            refine CS.out.mono ?_
            rintro e w6 ⟨rfl, b6⟩
            have HX6 := Lib.hid (HX5.out.below b6)
            have HM6 := Lib.hid (HM5.out.below b6)
            have HV6 := Lib.hid (HV5.out.below b6)
            have HC6 := Lib.hid (HC5.out.below b6)
            have HL6 := Lib.hid (HL5.out.below b6)
            have HB6 := Lib.hid (HB5.out.trans (b6.mono HB5.out.size))
            obtain ⟨d0, d1, d2, d3, d4, d5⟩ := HCS.out w6 HB6.out
            have CD := Lib.hid (ldo_any w.heap.size g n (.slice al n cl) V T x gr t m v d w6 HV6.out HL6.out h8 hg HI.out)
            clear b6 CS HX5 HM5 HV5 HC5 HL5 HB5
            go_wp2_with fail
            refine CD.out.mono ?_
            rintro e w7 ⟨v9, b9, rfl, _, t7, _, k7⟩
            obtain ⟨V', hV'⟩ : ∃ V', actT n V x gr t m v d = V' := ⟨_, rfl⟩
            rw [hV'] at t7
            have HV7 := Lib.hid t7
            have HX7 := Lib.hid (HX6.out.kt (m := 0) (U := T) k7 hggx.symm)
            have HC7 := Lib.hid (HC6.out.kt (m := 0) (U := T) k7 hggc)
            have HM7 := Lib.hid (HM6.out.kt k7 HV6.out)
            have HL7 := Lib.hid (HL6.out.kt k7 HV6.out)
            have HB7 := Lib.hid (HB6.out.trans k7.below)
            clear t7 k7 hV' CD HX6 HM6 HV6 HC6 HL6 HB6 HCS d0 d1 d2 d3 d4 d5
            go_wp2_with fail
            go_roundw
            case rel => exact ⟨k2 + 1, U', V', by go_num, by omega, HX7, HM7, HU2, HV7, HC7, HL7, HB7⟩
            case measure => simp [intOf]; omega
          · have CS := Lib.hid (lsame_any w.heap.size gc n (.slice al n cl) T wr HC.out HL.out h8 HI.out)
            rcases (show ¬ (k2 : Int) < (len2 : Int) ∨ ((k2 : Int) < (len2 : Int) ∧ ¬ (k2 : Int) < 20) by omega) with hx2 | ⟨hx2, hy2⟩
            all_goals
              go_wp2_with fail
              refine CS.out.mono ?_
              rintro e w6 ⟨rfl, b6⟩
              have HB6 := Lib.hid (HB.out.trans (b6.mono HB.out.size))
              clear b6 CS
              go_wp2_with fail
              go_ret
              exact ⟨rfl, HB6.out⟩
section
variable {H : Type} {enc : TypeId × Value → H}
theorem slotsBack_walk (n : Int) (v : Value) (d : DataW H) (p : List MemPlace) (v2 : Value) (d2 : DataW H) (p2 : List MemPlace) (w : World) (hn : (Lit.int .u8 n).wf = true) (hv : ∃ a len cap, v = .slice a len cap) (h : DataW.Trod enc Try.prog w 0 (fun _ => true) true 22 v d p) (hv2 : ∃ a len cap, v2 = .slice a len cap) (h2 : DataW.Trod enc Try.prog w 0 (fun _ => true) true 22 v2 d2 p2) :
    Calls Try.prog 5 #[.int .u8 n, v, v2] w fun e w' => e = .returned (.bool true) ∧ Below w.heap.size w w' := by
  obtain ⟨ao, len, cap, rfl, hl, hA⟩ := open_acts22 hv h
  obtain ⟨ao2, len2, cap2, rfl, hl2, hA2⟩ := open_acts22 hv2 h2
  have hb := u8_in hn
  obtain ⟨z, rfl⟩ : ∃ z : Nat, n = (z : Int) := ⟨n.toNat, by omega⟩
  exact back_law z ao ao2 len cap len2 cap2 w (by omega) (by unfold maxLen at hl; exact hl) hA (by unfold maxLen at hl2; exact hl2) hA2
end
end Go.Proofs.Ythhgodfgigcacaa
