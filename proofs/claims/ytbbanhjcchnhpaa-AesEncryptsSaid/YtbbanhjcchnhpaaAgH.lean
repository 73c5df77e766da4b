/- The reference of package aes (cellaret): Encrypt. -/
import Derived.Test.YtbbanhjcchnhpaaAgF
namespace Go.Proofs.Ytbbanhjcchnhpaa
open Go.RowKit Go.Deep
set_option linter.unusedVariables false
set_option linter.unusedSimpArgs false
/-- A state as numbers. -/
def nS (g : Nat → UInt8) (j : Nat) : Nat := (g j).toNat
theorem nS_lt (g : Nat → UInt8) (j : Nat) : nS g j < 256 := (g j).toNat_lt
theorem shiftedS (g : Nat → UInt8) (sb sc xb xc : Nat) (w : World) (hS : Hid (IAt w sb 16 (nS g))) (hX : Hid (IAt w xb 256 boxN)) :
    Calls Try.prog 63 #[.slice (some ⟨sb, 0, none⟩) 16 sc, .slice (some ⟨xb, 0, none⟩) 256 xc] w fun e w' => ∃ q, e = .returned (.slice (some ⟨q, 0, none⟩) 16 16) ∧ IAt w' q 16 (nS (fun j => bx (g (srcS 1 j)))) ∧ Below w.heap.size w w' :=
  (shifted_any (nS g) sb sc xb xc w (fun j _ => nS_lt g j) hS hX).mono fun e w' h => ⟨_, h.1, h.2.1.congr fun j _ => (bx_nat _).symm, h.2.2⟩
theorem mixedS (g : Nat → UInt8) (sb sc : Nat) (w : World) (hS : Hid (IAt w sb 16 (nS g))) :
    Calls Try.prog 62 #[.slice (some ⟨sb, 0, none⟩) 16 sc] w fun e w' => ∃ q, e = .returned (.slice (some ⟨q, 0, none⟩) 16 16) ∧ IAt w' q 16 (nS (mxB aE g)) ∧ Below w.heap.size w w' :=
  (mixed_any (nS g) sb sc w (fun j _ => nS_lt g j) hS).mono fun e w' h => ⟨_, h.1, h.2.1.congr fun j _ => (mxB_nat aE g j aE_lt).symm, h.2.2⟩
theorem addedS (g : Nat → UInt8) (W : Nat → UInt32) (bs cs : Nat → Nat) (n sb sc rb rc : Nat) (w : World) (hn : n ≤ 14) (hS : Hid (IAt w sb 16 (nS g))) (hX : Hid (WAt w rb 60 W bs cs)) :
    Calls Try.prog 61 #[.slice (some ⟨sb, 0, none⟩) 16 sc, .slice (some ⟨rb, 0, none⟩) 60 rc, .int .i64 (n : Int)] w fun e w' => ∃ q, e = .returned (.slice (some ⟨q, 0, none⟩) 16 16) ∧ IAt w' q 16 (nS (fun j => g j ^^^ wB W n j)) ∧ Below w.heap.size w w' :=
  (added_any (nS g) W bs cs n sb sc rb rc w hn (fun j _ => nS_lt g j) hS hX).mono fun e w' h => ⟨_, h.1, h.2.1.congr fun j _ => (UInt8.toNat_xor _ _).symm, h.2.2⟩
def rdF (l : List UInt8) (k j : Nat) : Nat := if j < k then (bAt l j).toNat else 0
set_option maxRecDepth 100000 in
set_option maxHeartbeats 3000000 in
theorem renc_any (ks s : ByteArray) (w : World) (hk : ks.size = 32) (hs : s.size = 16) :
    Calls Try.prog 24 #[.string ks, .string s] w fun e w' => e = .returned (.string (txS (encR (wI ks.data.toList 60) (bAt s.data.toList) 14))) ∧ Below w.heap.size w w' := by
  have CW := Lib.hid (fun xb xc w hX => words_any ks xb xc w hk hX)
  have HIX := Lib.hid (fun (j : Nat) (hj : j < 16) w => index_str s (j : Int) j rfl (by omega) w)
  have hmk := makeI16
  have hmk2 := make16k
  generalize wI ks.data.toList 60 = W at *
  generalize s.data.toList = l at *
  clear hk hs
  go_enter Try.func24, Try.ntmps24
  go_wp2_with fail
  refine (boxes_any _).mono ?_
  rintro e w1 ⟨xb, xc, rfl, hI, b1⟩
  have B1 := Lib.hid b1
  have HI1 := Lib.hid hI
  clear hI b1
  go_wp2_with fail
  refine (CW.out xb xc _ HI1).mono ?_
  rintro e w2 ⟨rb, rc, bs, cs, rfl, hA, b2⟩
  have B2 := Lib.hid (below_trans B1.out b2)
  have HI2 := Lib.hid (HI1.out.below b2)
  have HA2 := Lib.hid hA
  clear hA b2 HI1 B1 CW
  go_wp2_with fail
  obtain ⟨w3, HW3, HR3, B3⟩ : ∃ w3, Hid (w2.alloc (.cells (madeCells #[.int .i64 0] 16) 3) = w3) ∧ Hid (w3.rowIs w2.heap.size 3 16 (fun j => .int .i64 (rdF l 0 j : Int))) ∧ Hid (Below w2.heap.size w2 w3) :=
    ⟨_, Lib.hid rfl, Lib.hid (World.rowIs_made w2 (.int .i64 0) 16 3), Lib.hid ((Below.refl _ _).alloc (Nat.le_refl _) _)⟩
  rw [HW3.out]
  clear HW3
  obtain ⟨q, hq⟩ : ∃ q, Hid (w2.heap.size = q) := ⟨_, Lib.hid rfl⟩
  rw [hq.out] at HR3 B3
  rw [show w2.heap.size = q from hq.out]
  go_loopw [8] (fun x wi => ∃ k : Nat, x = .int .i64 (k : Int) ∧ k ≤ 16 ∧ Hid (wi.rowIs q 3 16 (fun j => .int .i64 (rdF l k j : Int))) ∧ Hid (Below q w2 wi)) (fun x _ => 16 - (intOf x).toNat)
  case atStart => exact ⟨0, rfl, by omega, HR3, B3⟩
  clear HR3 B3
  case round =>
    obtain ⟨k, rfl, hk, HR, HB⟩ := hrel
    by_cases hlk : k < 16
    · as_aux_lemma =>
      have hki : (k : Int) < 16 := by omega
      have hix := HIX.out k hlk
      have hbb := (bAt l k).toNat_lt
      obtain ⟨b, hb⟩ : ∃ b, Hid ((bAt l k).toNat = b) := ⟨_, Lib.hid rfl⟩
      rw [hb.out] at hix hbb
      have y1 : IntKind.i64.wrap (b : Int) = b := IntWalk.i64_in _ (by omega)
      have c0 := World.rowIs.cell HR.out (i := k) hlk
      have f0 := World.rowIs.frozen HR.out k
      go_wp2_with fail
      go_roundw
      case rel => exact ⟨k + 1, by go_num, by omega, Lib.hid (by
        refine World.rowIs.congr (World.rowIs.set HR.out k (.int .i64 (b : Int))) fun j hj => ?_
        unfold rdF
        by_cases e : j = k
        · subst e
          rw [if_pos rfl, if_pos (show j < j + 1 by omega), hb.out]
        · rw [if_neg e]
          by_cases h : j < k
          · rw [if_pos h, if_pos (show j < k + 1 by omega)]
          · rw [if_neg h, if_neg (show ¬ j < k + 1 by omega)]), Lib.hid (HB.out.setCell (p := ⟨q, k, none⟩) (Nat.le_refl _) _)⟩
      case measure => simp [intOf]; omega
    · as_aux_lemma =>
      obtain rfl : k = 16 := by omega
      rw [show ((16 : Nat) : Int) = 16 from rfl]
      have BQ : Below w2.heap.size w2 wr := by rw [hq.out]; exact HB.out
      have HI3 := Lib.hid (HI2.out.below BQ)
      have HA3 := Lib.hid (HA2.out.below BQ)
      have B3 := Lib.hid (below_trans B2.out BQ)
      have HS3 : Hid (IAt wr q 16 (nS (bAt l))) := Lib.hid ((IAt.of_row HR.out).congr fun j hj => by unfold rdF; rw [if_pos hj]; rfl)
      clear HI2 HA2 B2 BQ HR HB HIX hq
      have CA0 := Lib.hid (fun w h1 h2 => addedS (bAt l) W bs cs 0 q 16 rb rc w (by omega) h1 h2)
      rw [show ((0 : Nat) : Int) = 0 from rfl] at CA0
      go_wp2_with fail
      refine (CA0.out _ HS3 HA3).mono ?_
      rintro e w4 ⟨q4, rfl, hS4, b4⟩
      have HI4 := Lib.hid (HI3.out.below b4)
      have HA4 := Lib.hid (HA3.out.below b4)
      have B4 := Lib.hid (below_trans B3.out b4)
      have HS4 : Hid (IAt w4 q4 16 (nS (encR W (bAt l) (1 - 1)))) := Lib.hid hS4
      clear HI3 HA3 B3 HS3 CA0 hS4 b4
      go_wp2_with fail
      go_loopw [7, 9] (fun v x wi => ∃ n q : Nat, x = .int .i64 (n : Int) ∧ v = .slice (some ⟨q, 0, none⟩) 16 16 ∧ 1 ≤ n ∧ n ≤ 14 ∧ Hid (IAt wi q 16 (nS (encR W (bAt l) (n - 1)))) ∧ Hid (IAt wi xb 256 boxN) ∧ Hid (WAt wi rb 60 W bs cs) ∧ Hid (Below w.heap.size w wi)) (fun _ x _ => 14 - (intOf x).toNat)
      case atStart => exact ⟨1, q4, rfl, rfl, by omega, by omega, HS4, HI4, HA4, B4⟩
      clear HI4 HA4 B4 HS4
      case round =>
        obtain ⟨n, q, rfl, rfl, hn1, hn2, HS, HI, HA, HB⟩ := hrel
        by_cases hln : n < 14
        · as_aux_lemma =>
          have hni : (n : Int) < 14 := by omega
          go_wp2_with fail
          refine (shiftedS _ q 16 xb xc _ HS HI).mono ?_
          rintro e w5 ⟨q5, rfl, hS5, b5⟩
          have HI5 := Lib.hid (HI.out.below b5)
          have HA5 := Lib.hid (HA.out.below b5)
          have B5 := Lib.hid (below_trans HB.out b5)
          have HS5 := Lib.hid hS5
          clear hS5 b5 HS HI HA HB
          go_wp2_with fail
          refine (mixedS _ q5 16 _ HS5).mono ?_
          rintro e w6 ⟨q6, rfl, hS6, b6⟩
          have HI6 := Lib.hid (HI5.out.below b6)
          have HA6 := Lib.hid (HA5.out.below b6)
          have B6 := Lib.hid (below_trans B5.out b6)
          have HS6 := Lib.hid hS6
          clear hS6 b6 HS5 HI5 HA5 B5
          go_wp2_with fail
          refine (addedS _ W bs cs n q6 16 rb rc _ (by omega) HS6 HA6).mono ?_
          rintro e w7 ⟨q7, rfl, hS7, b7⟩
          have HI7 := Lib.hid (HI6.out.below b7)
          have HA7 := Lib.hid (HA6.out.below b7)
          have B7 := Lib.hid (below_trans B6.out b7)
          have HS7 := Lib.hid hS7
          clear hS7 b7 HS6 HI6 HA6 B6
          go_wp2_with fail
          go_roundw
          case rel => exact ⟨n + 1, q7, by go_num, rfl, by omega, by omega, Lib.hid (by
            obtain ⟨k, rfl⟩ : ∃ k, n = k + 1 := ⟨n - 1, by omega⟩
            rw [show k + 1 + 1 - 1 = k + 1 from rfl, encR_mid W _ k (by omega)]
            exact HS7.out), HI7, HA7, B7⟩
          case measure => simp [intOf]; omega
        · as_aux_lemma =>
          obtain rfl : n = 14 := by omega
          rw [show ((14 : Nat) : Int) = 14 from rfl]
          rw [show 14 - 1 = 13 from rfl] at HS
          have HE := Lib.hid (encR_end W (bAt l) 13 (by omega))
          obtain ⟨F13, hF13⟩ : ∃ F, Hid (encR W (bAt l) 13 = F) := ⟨_, Lib.hid rfl⟩
          rw [hF13.out] at HS HE
          clear hF13
          have CA14 := Lib.hid (fun q w h1 h2 => addedS (fun j => bx (F13 (srcS 1 j))) W bs cs 14 q 16 rb rc w (by omega) h1 h2)
          rw [show ((14 : Nat) : Int) = 14 from rfl] at CA14
          go_wp2_with fail
          refine (shiftedS F13 q 16 xb xc _ HS HI).mono ?_
          rintro e w5 ⟨q5, rfl, hS5, b5⟩
          have HA5 := Lib.hid (HA.out.below b5)
          have B5 := Lib.hid (below_trans HB.out b5)
          have HS5 := Lib.hid hS5
          clear hS5 b5 HS HI HA HB
          go_wp2_with fail
          refine (CA14.out q5 _ HS5 HA5).mono ?_
          rintro e w6 ⟨q6, rfl, hS6, b6⟩
          have B6 := Lib.hid (below_trans B5.out b6)
          obtain ⟨F, hF⟩ : ∃ F, Hid (encR W (bAt l) 14 = F) := ⟨_, Lib.hid rfl⟩
          have HS6 : Hid (IAt w6 q6 16 (nS F)) := Lib.hid (by rw [← hF.out, show (14 : Nat) = 13 + 1 from rfl, HE.out]; exact hS6)
          clear hS6 b6 HS5 HA5 B5 CA14 HE
          go_wp2_with fail
          obtain ⟨w7, HW7, HR7, B7⟩ : ∃ w7, Hid (w6.alloc (.cells (madeCells #[.int .u8 0] 16) 5) = w7) ∧ Hid (w7.rowIs w6.heap.size 5 16 (fun j => .int .u8 ((tx F 0 j).toNat : Int))) ∧ Hid (Below w6.heap.size w6 w7) :=
            ⟨_, Lib.hid rfl, Lib.hid (World.rowIs_made w6 (.int .u8 0) 16 5), Lib.hid ((Below.refl _ _).alloc (Nat.le_refl _) _)⟩
          rw [HW7.out]
          clear HW7
          have hq6 := HS6.out.lt
          have HZ6 := Lib.hid B6.out.size
          obtain ⟨p, hp⟩ : ∃ p, Hid (w6.heap.size = p) := ⟨_, Lib.hid rfl⟩
          rw [hp.out] at HR7 B7 hq6 HZ6
          rw [show w6.heap.size = p from hp.out]
          go_loopw [11] (fun x wi => ∃ k : Nat, x = .int .i64 (k : Int) ∧ k ≤ 16 ∧ Hid (wi.rowIs p 5 16 (fun j => .int .u8 ((tx F k j).toNat : Int))) ∧ Hid (Below p w6 wi)) (fun x _ => 16 - (intOf x).toNat)
          case atStart => exact ⟨0, rfl, by omega, HR7, B7⟩
          clear HR7 B7
          case round =>
            obtain ⟨k, rfl, hk, HR, HB⟩ := hrel
            by_cases hlk : k < 16
            · as_aux_lemma =>
              have hki : (k : Int) < 16 := by omega
              have c1 := (HS6.out.under hq6 HB.out).cell k hlk
              have hbb := nS_lt F k
              obtain ⟨b, hb⟩ : ∃ b, Hid (nS F k = b) := ⟨_, Lib.hid rfl⟩
              rw [hb.out] at c1 hbb
              have y1 : (b : Int) % 256 = b := by omega
              have c0 := World.rowIs.cell HR.out (i := k) hlk
              have f0 := World.rowIs.frozen HR.out k
              go_wp2_with fail
              go_roundw
              case rel => exact ⟨k + 1, by go_num, by omega, Lib.hid (by
                refine World.rowIs.congr (World.rowIs.set HR.out k (.int .u8 (b : Int))) fun j hj => ?_
                unfold tx
                by_cases e : j = k
                · subst e
                  rw [if_pos rfl, if_pos (show j < j + 1 by omega), ← hb.out]
                  rfl
                · rw [if_neg e]
                  by_cases h : j < k
                  · rw [if_pos h, if_pos (show j < k + 1 by omega)]
                  · rw [if_neg h, if_neg (show ¬ j < k + 1 by omega)]), Lib.hid (HB.out.setCell (p := ⟨p, k, none⟩) (Nat.le_refl _) _)⟩
              case measure => simp [intOf]; omega
            · as_aux_lemma =>
              obtain rfl : k = 16 := by omega
              rw [show ((16 : Nat) : Int) = 16 from rfl]
              have hcv := conv_row (P := Try.prog) (cap := 16) (W := 16) (dst := 9) (f := F) Try.underlying77 Try.underlying5 Try.underlying9 (World.rowIs.congr HR.out fun j hj => by unfold tx; rw [if_pos hj]) (Nat.le_refl _)
              have BW := B6.out.trans (HB.out.mono HZ6.out)
              go_wp2_with fail
              go_ret
              exact ⟨by (rw [hF.out]; rfl), BW⟩
end Go.Proofs.Ytbbanhjcchnhpaa
