/- Level: LevelBalance. -/
import Derived.Test.YtdoeaepfjdjmmaaLwJ
namespace Go.Proofs.Ytdoeaepfjdjmmaa
open Go.RowKit Go.Deep Go.ChangeShapes Go.WideShapes
set_option linter.unusedVariables false
set_option linter.unusedSimpArgs false
theorem u8_in {a : Int} (h : (Lit.int .u8 a).wf = true) : 0 ≤ a ∧ a ≤ 255 := by
  have : decide (0 ≤ a) && decide (a ≤ 255) := h
  simpa using this
set_option maxRecDepth 100000 in
set_option maxHeartbeats 8000000 in
theorem balance_law (z : Nat) (most : Int) (ao : Option Addr) (len cap : Nat) (w : World) (hz : z < 256) (hm1 : -9223372036854775808 ≤ most) (hm2 : most ≤ 9223372036854775807) (hl : len ≤ 9223372036854775807) (hA : ActRow w ao len) : Calls Try.prog 5 #[.int .u8 (z : Int), .slice ao len cap, .int .i64 most] w fun e w' => e = .returned (.bool true) ∧ Below w.heap.size w w' := by
  obtain ⟨n, hn⟩ : ∃ n, z % 16 + 1 = n := ⟨_, rfl⟩
  have h1 : 1 ≤ n := by omega
  have h16 : n ≤ 16 := by omega
  have CN := Lib.hid (newQ_ok n w h1 h16)
  have HA := Lib.hid hA
  clear hA
  go_enter Try.func5, Try.ntmps5
  go_upto_region 1 with fail
  go_cut [7] from 14 to 17 (fun s7 wx => s7 = .int .i64 (n : Int) ∧ w = wx)
  case first =>
    go_wp2_with fail
    go_meet
    exact ⟨by congr 1; omega, rfl⟩
  case rest =>
  obtain ⟨rfl, rfl⟩ := hcut
  go_wp2_with fail
  refine CN.out.mono ?_
  rintro e w1 ⟨g, rfl, q1, hg, b1⟩
  have HQ1 := Lib.hid (bq_start q1 hg b1.size)
  have HB1 := Lib.hid (b1.alloc b1.size (.cells #[.slice none 0 0, .slice none 0 0, .slice none 0 0, .slice none 0 0] 32))
  clear q1 b1 CN hn
  obtain ⟨h, hh⟩ : ∃ h, Hid (w1.heap.size = h) := ⟨_, Lib.hid rfl⟩
  rw [hh.out] at HQ1
  obtain ⟨w2, hw2⟩ : ∃ w2, Hid (w1.alloc (.cells #[.slice none 0 0, .slice none 0 0, .slice none 0 0, .slice none 0 0] 32) = w2) := ⟨_, Lib.hid rfl⟩
  rw [hw2.out] at HQ1 HB1
  go_upto_region 4 with fail
  rw [hw2.out, hh.out]
  clear hw2 hh
  have CA := Lib.hid (awake24 w2)
  go_wp2_with fail
  refine CA.out.mono ?_
  rintro e w3 ⟨rfl, b3⟩
  have HQ3 := Lib.hid (HQ1.out.below b3)
  have HB3 := Lib.hid (HB1.out.trans (b3.mono HB1.out.size))
  clear b3 CA HQ1 HB1
  go_wp2_with fail
  go_loopw [11] (fun s8 wi => ∃ (k : Nat) (R : Nat → List Nat), s8 = .int .i64 (k : Int) ∧ k ≤ len ∧ Hid (Bq w.heap.size wi g h n R R) ∧ Hid (Below w.heap.size w wi)) (fun s8 _ => len - (intOf s8).toNat)
  case atStart => exact ⟨0, _, rfl, by omega, HQ3, HB3⟩
  case round =>
    obtain ⟨k, R, rfl, hk, HQ, HB⟩ := hrel
    clear HQ3 HB3
    by_cases hgo : k < len ∧ k < 60
    · have hlt' : (k : Int) < (len : Int) := by omega
      have h60' : (k : Int) < 60 := by omega
      have hlt := hgo.1
      obtain ⟨b, off, rfl, hb, hcs⟩ := HA.out (by omega)
      obtain ⟨x, t, m, m1, m2, c0, c1, c2⟩ := hcs k hlt
      have d0 := (HB.out.cell (p := ⟨b, off + k * 3, none⟩) hb).trans c0
      have d1 := (HB.out.cell (p := ⟨b, off + k * 3 + 1, none⟩) hb).trans c1
      have d2 := (HB.out.cell (p := ⟨b, off + k * 3 + 2, none⟩) hb).trans c2
      have CD := Lib.hid (lwdo_any w.heap.size g h n R R x t m wr HQ.out m1 m2)
      clear hcs c0 c1 c2
      go_wp2_with fail
      refine CD.out.mono ?_
      rintro e w5 ⟨bb, rfl, hbb, q5, k5⟩
      have HQ5 := Lib.hid q5
      have HB5 := Lib.hid (HB.out.trans k5.below)
      clear q5 k5 CD HQ HB d0 d1 d2 hbb
      go_wp2_with fail
      go_roundw
      case rel => exact ⟨k + 1, _, by go_num, by omega, HQ5, HB5⟩
      case measure => simp [intOf]; omega
    · have CE := Lib.hid (len_any g n R wr HQ.out.q)
      have CM := Lib.hid (fun (w' : World) (hb : Below wr.heap.size wr w') => balance_any w.heap.size g n R most w' (HQ.out.q.below hb) HQ.out.bg hm2)
      have HL := Lib.hid (bal_len HQ.out.ok most 3 (by omega))
      have HT : Hid (∀ r, r < 4 → 0 < r → ((balR R most 3 r).length : Int) ≤ max most 0) := Lib.hid (fun r a b => bal_top HQ.out.ok most 3 (by omega) r a (by omega))
      obtain ⟨n3, hn3⟩ : ∃ z, Hid (balN R most 3 = z) := ⟨_, Lib.hid rfl⟩
      obtain ⟨R3, hR3⟩ : ∃ R3, Hid (balR R most 3 = R3) := ⟨_, Lib.hid rfl⟩
      obtain ⟨sz, hsz⟩ : ∃ z, Hid (lenS R 4 = z) := ⟨_, Lib.hid rfl⟩
      rw [hR3.out] at HL HT CM
      rw [hsz.out] at HL CE
      rw [hn3.out] at CM
      have HG := Lib.hid ((bal_again most HT.out 3 (by omega)).2)
      clear HQ hn3 hR3 hsz
      rcases (show ¬ (k : Int) < (len : Int) ∨ ((k : Int) < (len : Int) ∧ ¬ (k : Int) < 60) by omega) with hx | ⟨hx, hy⟩
      all_goals
        go_wp2_with fail
        refine CE.out.mono ?_
        rintro e w4 ⟨rfl, b4⟩
        have B4 := Lib.hid b4
        clear b4 CE
        go_wp2_with fail
        refine (CM.out w4 B4.out).mono ?_
        rintro e w5 ⟨rfl, q5, k5⟩
        have HQ5 := Lib.hid q5
        have HB5 := Lib.hid ((HB.out.trans (B4.out.mono HB.out.size)).trans k5.below)
        clear q5 k5 CM HB B4
        go_wp2_with fail
        go_loopw [13] (fun s13 wi => ∃ r : Nat, s13 = .int .i64 (r : Int) ∧ 1 ≤ r ∧ r ≤ 4 ∧ Hid (QR wi g n R3) ∧ Hid (Below w.heap.size w wi)) (fun s13 _ => 4 - (intOf s13).toNat)
        case atStart => exact ⟨1, rfl, by omega, by omega, HQ5, HB5⟩
        case round =>
          obtain ⟨r, rfl, hr1, hr4, HQ6, HB6⟩ := hrel
          clear HQ5 HB5
          by_cases hrt : r < 4
          · have hrt' : (r : Int) < 4 := by omega
            have CR := Lib.hid (list_any g n R3 (r : Int) wr HQ6.out)
            rw [show rowL R3 (r : Int) = R3 r by unfold rowL; rw [if_pos (by omega), Int.toNat_natCast]] at CR
            have ht := HT.out r hrt hr1
            have HLM := Lib.hid (nvL_length (R3 r))
            obtain ⟨rl, hrl⟩ : ∃ z, (R3 r).length = z := ⟨_, rfl⟩
            rw [hrl] at CR ht
            clear hrl HLM
            rw [show max most 0 = if most < 0 then 0 else most by split <;> omega] at ht
            have ht2 : ¬ (if most < 0 then 0 else most) < (rl : Int) := by omega
            go_wp2_with fail
            refine CR.out.mono ?_
            rintro e w7 ⟨v, base, rfl, _, ho, b7⟩
            obtain ⟨a7, c7, rfl⟩ := own_slD ho
            have HQ7 := Lib.hid (HQ6.out.below b7)
            have HB7 := Lib.hid (HB6.out.trans (b7.mono HB6.out.size))
            clear ho b7 CR HQ6 HB6
            go_wp2_with fail
            go_roundw
            case rel => exact ⟨r + 1, by go_num, by omega, by omega, HQ7, HB7⟩
            case measure => simp [intOf]; omega
          · obtain rfl : r = 4 := by omega
            rw [show ((4 : Nat) : Int) = 4 from rfl]
            have CE2 := Lib.hid (len_any g n R3 wr HQ6.out)
            have CM2 := Lib.hid (fun (w' : World) (hb : Below wr.heap.size wr w') => balance_any w.heap.size g n R3 most w' (HQ6.out.below hb) hg hm2)
            rw [HL.out] at CE2
            rw [HG.out] at CM2
            go_wp2_with fail
            refine CE2.out.mono ?_
            rintro e w8 ⟨rfl, b8⟩
            have B8 := Lib.hid b8
            clear b8 CE2
            go_wp2_with fail
            refine (CM2.out w8 B8.out).mono ?_
            rintro e w9 ⟨rfl, _, k9⟩
            have HB9 := Lib.hid ((HB6.out.trans (B8.out.mono HB6.out.size)).trans k9.below)
            clear k9 CM2 HB6 B8
            go_wp2_with fail
            go_ret
            exact ⟨rfl, HB9.out⟩
section
variable {H : Type} {enc : TypeId × Value → H}
theorem levelBalance_walk (n : Int) (v : Value) (d : DataW H) (p : List MemPlace) (m : Int) (w : World) (hn : (Lit.int .u8 n).wf = true) (hv : ∃ a len cap, v = .slice a len cap) (h : DataW.Trod enc Try.prog w 0 (fun _ => true) true 22 v d p) (hm : (Lit.int .i64 m).wf = true) :
    Calls Try.prog 5 #[.int .u8 n, v, .int .i64 m] w fun e w' => e = .returned (.bool true) ∧ Below w.heap.size w w' := by
  obtain ⟨ao, len, cap, rfl, hl, hA⟩ := open_acts24 hv h
  have hb := u8_in hn
  obtain ⟨z, rfl⟩ : ∃ z : Nat, n = (z : Int) := ⟨n.toNat, by omega⟩
  exact balance_law z m ao len cap w (by omega) (i64_in hm).1 (i64_in hm).2 (by unfold maxLen at hl; exact hl) hA
end
end Go.Proofs.Ytdoeaepfjdjmmaa
