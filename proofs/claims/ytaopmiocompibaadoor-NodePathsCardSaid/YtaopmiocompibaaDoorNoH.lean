/- The law NodePaths: leaves below n (made by gennp.py). -/
import Derived.Test.YtaopmiocompibaaDoorNoR
namespace Go.Proofs.YtaopmiocompibaaDoor
open Go.RowKit Go.Deep
set_option linter.unusedVariables false
set_option linter.unusedSimpArgs false
attribute [local irreducible] nd pathL sdv
set_option maxRecDepth 100000 in
set_option maxHeartbeats 4000000 in
theorem npH_c3 (leaf j : Nat) (n : Nat) (side : Int) (w : World) (hG : Gl w) (h0 : 0 ≤ (n : Int)) (h1 : (n : Int) < 63) (h2 : side ≠ 0) (h3 : side ≠ 1) (hl : leaf < 64) (hj : j < 6) (HNJ : Hid (∀ i, i = j → nd leaf (i + 1) = n)) (HNE : Hid (∀ i, i < 6 → i ≠ j → nd leaf (i + 1) ≠ n)) :
    Calls Tryd.prog 3 #[.int .i64 (leaf : Int), .int .i64 (n : Int), .int .i64 side] w fun e w' => e = .returned (.bool true) ∧ Below w.heap.size w w' := by
  have HB := Lib.hid (fun w => below_no (n : Int) side w (Or.inr (Or.inr ⟨h0, h1, h2, h3⟩)))
  have e2 : (side == 0) = false := by simpa using h2
  have e3 : (side == 1) = false := by simpa using h3
  have hl1 : ¬ (leaf : Int) < 0 := by omega
  have hl2 : ¬ 63 < (leaf : Int) := by omega
  have HP := Lib.hid (fun w => path_yes leaf w hl)
  have hs2 := (sdv_two leaf j hl hj).1
  have HS := Lib.hid (fun w => side_hit leaf j w hl hj)
  rw [HNJ.out j rfl] at HS
  go_enter Tryd.func3, Tryd.ntmps3
  go_wp2_with fail
  refine (HP.out _).mono ?_
  rintro e w1 ⟨v, rfl, HO, B1⟩
  obtain ⟨gp, cp, rfl, hgc, hgb, hgl, hr⟩ := own_rowI HO (by omega)
  have HA1 := Lib.hid (show NAt w1 gp (pathL leaf 6) from ⟨hr, hgl⟩)
  clear HO hr
  go_wp2_with fail
  refine (HS.out _).mono ?_
  rintro e w2 ⟨rfl, b2⟩
  have HA2 := Lib.hid (HA1.out.below b2)
  have B2 := B1.trans (b2.mono B1.size)
  clear HA1 b2 B1
  have c5 := HA2.out.cell 5 (by rw [pathL_len]; omega)
  rw [path_at leaf 5 (by omega), nd_6 leaf hl] at c5
  go_wp2_with fail
  refine (HB.out _).mono ?_
  rintro e w' ⟨rfl, rfl⟩
  go_wp2_with fail
  clear c5 HB
  go_loopw [16, 17] (fun x y wi => ∃ (k : Nat) (z : Int) (ab : Bool), x = .bool ab ∧ y = .int .i64 z ∧ Hid (z = (k : Int) - 1) ∧ k ≤ 6 ∧ Hid (ab = decide (k ≤ j)) ∧ Hid (NAt wi gp (pathL leaf 6)) ∧ Hid (Below w.heap.size w wi)) (fun _ y _ => (intOf y + 1).toNat)
  case atStart => exact ⟨6, 5, false, rfl, rfl, Lib.hid (by omega), by omega, Lib.hid (by rw [decide_eq_false (by omega)]), HA2, Lib.hid B2⟩
  clear HA2 B2
  case round =>
    obtain ⟨k, z, ab, rfl, rfl, HZ, hk, hab, HA, HBB⟩ := hrel
    have G1 := hG.below HBB.out
    have hbs := HBB.out.size
    cases k with
    | zero => as_aux_lemma =>
      obtain rfl : z = -1 := by have := HZ.out; omega
      obtain rfl : ab = true := by rw [hab.out]; exact decide_eq_true (Nat.zero_le _)
      go_wp2_with fail
      refine (awake17 _ G1).mono ?_
      rintro e w' ⟨rfl, B⟩
      go_wp2_with fail
      go_ret
      exact ⟨rfl, HBB.out.trans (B.mono hbs)⟩
    | succ i =>
      obtain rfl : z = (i : Int) := by have := HZ.out; omega
      clear HZ
      have hi6 : i < 6 := by omega
      have hi0 : 0 ≤ (i : Int) := by omega
      have hi5 : (i : Int) < 6 := by omega
      have c0 := HA.out.cell i (by rw [pathL_len]; omega)
      rw [path_at leaf i hi6] at c0
      have hsd := sdv_two leaf i hl hi6
      have hnl := (nd_two leaf i hl hi6).1
      have hbi : (i = 0 ∧ Hid (∀ w, Calls Tryd.prog 11 #[.int .i64 (nd leaf (i + 1) : Int), .int .i64 (sdv leaf i : Int)] w fun e w' => e = .returned (.tuple #[.int .i64 (leaf : Int), .bool true, .int .i64 0]) ∧ w = w')) ∨ (∃ i', i = i' + 1 ∧ nd leaf i < 63 ∧ Hid (∀ w, Calls Tryd.prog 11 #[.int .i64 (nd leaf (i + 1) : Int), .int .i64 (sdv leaf i : Int)] w fun e w' => e = .returned (.tuple #[.int .i64 (nd leaf i : Int), .bool false, .int .i64 0]) ∧ w = w')) := round_below leaf i hl hi6
      have HSI := Lib.hid (fun w => side_hit leaf i w hl hi6)
      have HSD : Hid (i = j → sdv leaf i = sdv leaf j) := Lib.hid (fun e => by rw [e])
      obtain ⟨N1, HN1⟩ : ∃ N1, Hid (nd leaf (i + 1) = N1) := ⟨_, Lib.hid rfl⟩
      obtain ⟨N0, HN0⟩ : ∃ N0, Hid (nd leaf i = N0) := ⟨_, Lib.hid rfl⟩
      rcases hbi with ⟨hz, hbc⟩ | ⟨i', hz, hN63, hbc⟩
      · as_aux_lemma =>
        have hib : ((i : Int) == 0) = true := by rw [beq_iff_eq]; omega
        have hz0 : (i : Int) ≤ 0 := by omega
        clear hz
        by_cases hij : i = j
        · have hN := HNJ.out i hij
          have hs := HSD.out hij
          have HN1 := Lib.hid hN
          rw [hN] at HSI hbc c0 hnl hsd
          rw [hs] at HSI hbc hsd
          have HIJ := Lib.hid hij
          clear hN hs hsd hij
          generalize sdv leaf j = sj at *
          go_wp2_with fail
          refine (HSI.out _).mono ?_
          rintro e w3 ⟨rfl, b3⟩
          have HA3 := Lib.hid (HA.out.below b3)
          have B3 := HBB.out.trans (b3.mono hbs)
          have d0 := HA3.out.cell i (by rw [pathL_len]; omega)
          rw [path_at leaf i hi6, HN1.out] at d0
          clear c0 b3
          go_wp2_with fail
          refine (hbc.out _).mono ?_
          rintro e w' ⟨rfl, rfl⟩
          go_wp2_with fail
          go_roundw
          case rel => exact ⟨i, (i : Int) - 1, true, rfl, by first | rfl | go_num, Lib.hid (by omega), by omega, Lib.hid (by have := HIJ.out; rw [decide_eq_true (by omega)]), HA3, Lib.hid B3⟩
          case measure => first | (simp [intOf]; done) | (simp [intOf]; omega)
        · have hne : ((nd leaf (i + 1) : Int) == (n : Int)) = false := by have := HNE.out i hi6 hij; rw [beq_eq_false_iff_ne]; omega
          rw [HN1.out] at HSI hbc c0 hne hnl hsd
          generalize sdv leaf i = sd at HSI hbc hsd
          clear hsd
          go_wp2_with fail
          refine (HSI.out _).mono ?_
          rintro e w3 ⟨rfl, b3⟩
          have HA3 := Lib.hid (HA.out.below b3)
          have B3 := HBB.out.trans (b3.mono hbs)
          have d0 := HA3.out.cell i (by rw [pathL_len]; omega)
          rw [path_at leaf i hi6, HN1.out] at d0
          clear c0 b3
          go_wp2_with fail
          refine (hbc.out _).mono ?_
          rintro e w' ⟨rfl, rfl⟩
          go_wp2_with fail
          go_roundw
          case rel => exact ⟨i, (i : Int) - 1, ab, rfl, by first | rfl | go_num, Lib.hid (by omega), by omega, Lib.hid (by rw [hab.out]; exact decide_eq_decide.2 (by omega)), HA3, Lib.hid B3⟩
          case measure => first | (simp [intOf]; done) | (simp [intOf]; omega)
      · as_aux_lemma =>
        have hib : ((i : Int) == 0) = false := by rw [beq_eq_false_iff_ne]; omega
        have hi1 : 1 ≤ (i : Int) := by omega
        have hi1' : (i : Int) - 1 < 6 := by omega
        have hi1t : ((i : Int) - 1).toNat = i - 1 := by omega
        clear hz
        by_cases hij : i = j
        · have hN := HNJ.out i hij
          have hs := HSD.out hij
          have HN1 := Lib.hid hN
          rw [hN] at HSI hbc c0 hnl hsd
          rw [hs] at HSI hbc hsd
          rw [HN0.out] at hbc hN63 hsd
          have HIJ := Lib.hid hij
          clear hN hs hsd hij
          generalize sdv leaf j = sj at *
          go_wp2_with fail
          refine (HSI.out _).mono ?_
          rintro e w3 ⟨rfl, b3⟩
          have HA3 := Lib.hid (HA.out.below b3)
          have B3 := HBB.out.trans (b3.mono hbs)
          have d0 := HA3.out.cell i (by rw [pathL_len]; omega)
          rw [path_at leaf i hi6, HN1.out] at d0
          have d1 := HA3.out.cell (i - 1) (by rw [pathL_len]; omega)
          rw [path_at leaf (i - 1) (by omega), show i - 1 + 1 = i from by omega, HN0.out] at d1
          clear c0 b3
          go_wp2_with fail
          refine (hbc.out _).mono ?_
          rintro e w' ⟨rfl, rfl⟩
          go_wp2_with fail
          go_roundw
          case rel => exact ⟨i, (i : Int) - 1, true, rfl, by first | rfl | go_num, Lib.hid (by omega), by omega, Lib.hid (by have := HIJ.out; rw [decide_eq_true (by omega)]), HA3, Lib.hid B3⟩
          case measure => first | (simp [intOf]; done) | (simp [intOf]; omega)
        · have hne : ((nd leaf (i + 1) : Int) == (n : Int)) = false := by have := HNE.out i hi6 hij; rw [beq_eq_false_iff_ne]; omega
          rw [HN0.out] at hbc hN63 hsd
          rw [HN1.out] at HSI hbc c0 hne hnl hsd
          generalize sdv leaf i = sd at HSI hbc hsd
          clear hsd
          go_wp2_with fail
          refine (HSI.out _).mono ?_
          rintro e w3 ⟨rfl, b3⟩
          have HA3 := Lib.hid (HA.out.below b3)
          have B3 := HBB.out.trans (b3.mono hbs)
          have d0 := HA3.out.cell i (by rw [pathL_len]; omega)
          rw [path_at leaf i hi6, HN1.out] at d0
          have d1 := HA3.out.cell (i - 1) (by rw [pathL_len]; omega)
          rw [path_at leaf (i - 1) (by omega), show i - 1 + 1 = i from by omega, HN0.out] at d1
          clear c0 b3
          go_wp2_with fail
          refine (hbc.out _).mono ?_
          rintro e w' ⟨rfl, rfl⟩
          go_wp2_with fail
          go_roundw
          case rel => exact ⟨i, (i : Int) - 1, ab, rfl, by first | rfl | go_num, Lib.hid (by omega), by omega, Lib.hid (by rw [hab.out]; exact decide_eq_decide.2 (by omega)), HA3, Lib.hid B3⟩
          case measure => first | (simp [intOf]; done) | (simp [intOf]; omega)
set_option maxRecDepth 100000 in
set_option maxHeartbeats 4000000 in
theorem npH_c4 (leaf j : Nat) (n : Nat) (k : Int) (w : World) (hG : Gl w) (h1 : (n : Int) < 63) (h0 : 0 ≤ (n : Int)) (h2 : 2 * (n : Int) + 1 < 63) (HK : Hid (k = 2 * (n : Int) + 1)) (hl : leaf < 64) (hj : j < 6) (HNJ : Hid (∀ i, i = j → nd leaf (i + 1) = n)) (HNE : Hid (∀ i, i < 6 → i ≠ j → nd leaf (i + 1) ≠ n)) :
    Calls Tryd.prog 3 #[.int .i64 (leaf : Int), .int .i64 (n : Int), .int .i64 0] w fun e w' => e = .returned (.bool true) ∧ Below w.heap.size w w' := by
  have hkb : (k != 2 * (n : Int) + 1) = false := by rw [HK.out]; simp
  have HB := Lib.hid (fun w => below_node0 n w h1 h0 h2 k HK)
  clear HK
  have hl1 : ¬ (leaf : Int) < 0 := by omega
  have hl2 : ¬ 63 < (leaf : Int) := by omega
  have HP := Lib.hid (fun w => path_yes leaf w hl)
  have hs2 := (sdv_two leaf j hl hj).1
  have HS := Lib.hid (fun w => side_hit leaf j w hl hj)
  rw [HNJ.out j rfl] at HS
  go_enter Tryd.func3, Tryd.ntmps3
  go_wp2_with fail
  refine (HP.out _).mono ?_
  rintro e w1 ⟨v, rfl, HO, B1⟩
  obtain ⟨gp, cp, rfl, hgc, hgb, hgl, hr⟩ := own_rowI HO (by omega)
  have HA1 := Lib.hid (show NAt w1 gp (pathL leaf 6) from ⟨hr, hgl⟩)
  clear HO hr
  go_wp2_with fail
  refine (HS.out _).mono ?_
  rintro e w2 ⟨rfl, b2⟩
  have HA2 := Lib.hid (HA1.out.below b2)
  have B2 := B1.trans (b2.mono B1.size)
  clear HA1 b2 B1
  have c5 := HA2.out.cell 5 (by rw [pathL_len]; omega)
  rw [path_at leaf 5 (by omega), nd_6 leaf hl] at c5
  go_wp2_with fail
  refine (HB.out _).mono ?_
  rintro e w' ⟨rfl, rfl⟩
  go_wp2_with fail
  clear c5 HB
  go_loopw [16, 17] (fun x y wi => ∃ (k : Nat) (z : Int) (ab : Bool), x = .bool ab ∧ y = .int .i64 z ∧ Hid (z = (k : Int) - 1) ∧ k ≤ 6 ∧ Hid (ab = decide (k ≤ j)) ∧ Hid (NAt wi gp (pathL leaf 6)) ∧ Hid (Below w.heap.size w wi)) (fun _ y _ => (intOf y + 1).toNat)
  case atStart => exact ⟨6, 5, false, rfl, rfl, Lib.hid (by omega), by omega, Lib.hid (by rw [decide_eq_false (by omega)]), HA2, Lib.hid B2⟩
  clear HA2 B2
  case round =>
    obtain ⟨k, z, ab, rfl, rfl, HZ, hk, hab, HA, HBB⟩ := hrel
    have G1 := hG.below HBB.out
    have hbs := HBB.out.size
    cases k with
    | zero => as_aux_lemma =>
      obtain rfl : z = -1 := by have := HZ.out; omega
      obtain rfl : ab = true := by rw [hab.out]; exact decide_eq_true (Nat.zero_le _)
      go_wp2_with fail
      refine (awake17 _ G1).mono ?_
      rintro e w' ⟨rfl, B⟩
      go_wp2_with fail
      go_ret
      exact ⟨rfl, HBB.out.trans (B.mono hbs)⟩
    | succ i =>
      obtain rfl : z = (i : Int) := by have := HZ.out; omega
      clear HZ
      have hi6 : i < 6 := by omega
      have hi0 : 0 ≤ (i : Int) := by omega
      have hi5 : (i : Int) < 6 := by omega
      have c0 := HA.out.cell i (by rw [pathL_len]; omega)
      rw [path_at leaf i hi6] at c0
      have hsd := sdv_two leaf i hl hi6
      have hnl := (nd_two leaf i hl hi6).1
      have hbi : (i = 0 ∧ Hid (∀ w, Calls Tryd.prog 11 #[.int .i64 (nd leaf (i + 1) : Int), .int .i64 (sdv leaf i : Int)] w fun e w' => e = .returned (.tuple #[.int .i64 (leaf : Int), .bool true, .int .i64 0]) ∧ w = w')) ∨ (∃ i', i = i' + 1 ∧ nd leaf i < 63 ∧ Hid (∀ w, Calls Tryd.prog 11 #[.int .i64 (nd leaf (i + 1) : Int), .int .i64 (sdv leaf i : Int)] w fun e w' => e = .returned (.tuple #[.int .i64 (nd leaf i : Int), .bool false, .int .i64 0]) ∧ w = w')) := round_below leaf i hl hi6
      have HSI := Lib.hid (fun w => side_hit leaf i w hl hi6)
      have HSD : Hid (i = j → sdv leaf i = sdv leaf j) := Lib.hid (fun e => by rw [e])
      obtain ⟨N1, HN1⟩ : ∃ N1, Hid (nd leaf (i + 1) = N1) := ⟨_, Lib.hid rfl⟩
      obtain ⟨N0, HN0⟩ : ∃ N0, Hid (nd leaf i = N0) := ⟨_, Lib.hid rfl⟩
      rcases hbi with ⟨hz, hbc⟩ | ⟨i', hz, hN63, hbc⟩
      · as_aux_lemma =>
        have hib : ((i : Int) == 0) = true := by rw [beq_iff_eq]; omega
        have hz0 : (i : Int) ≤ 0 := by omega
        clear hz
        by_cases hij : i = j
        · have hN := HNJ.out i hij
          have hs := HSD.out hij
          have HN1 := Lib.hid hN
          rw [hN] at HSI hbc c0 hnl hsd
          rw [hs] at HSI hbc hsd
          have HIJ := Lib.hid hij
          clear hN hs hsd hij
          generalize sdv leaf j = sj at *
          go_wp2_with fail
          refine (HSI.out _).mono ?_
          rintro e w3 ⟨rfl, b3⟩
          have HA3 := Lib.hid (HA.out.below b3)
          have B3 := HBB.out.trans (b3.mono hbs)
          have d0 := HA3.out.cell i (by rw [pathL_len]; omega)
          rw [path_at leaf i hi6, HN1.out] at d0
          clear c0 b3
          go_wp2_with fail
          refine (hbc.out _).mono ?_
          rintro e w' ⟨rfl, rfl⟩
          go_wp2_with fail
          go_roundw
          case rel => exact ⟨i, (i : Int) - 1, true, rfl, by first | rfl | go_num, Lib.hid (by omega), by omega, Lib.hid (by have := HIJ.out; rw [decide_eq_true (by omega)]), HA3, Lib.hid B3⟩
          case measure => first | (simp [intOf]; done) | (simp [intOf]; omega)
        · have hne : ((nd leaf (i + 1) : Int) == (n : Int)) = false := by have := HNE.out i hi6 hij; rw [beq_eq_false_iff_ne]; omega
          rw [HN1.out] at HSI hbc c0 hne hnl hsd
          generalize sdv leaf i = sd at HSI hbc hsd
          clear hsd
          go_wp2_with fail
          refine (HSI.out _).mono ?_
          rintro e w3 ⟨rfl, b3⟩
          have HA3 := Lib.hid (HA.out.below b3)
          have B3 := HBB.out.trans (b3.mono hbs)
          have d0 := HA3.out.cell i (by rw [pathL_len]; omega)
          rw [path_at leaf i hi6, HN1.out] at d0
          clear c0 b3
          go_wp2_with fail
          refine (hbc.out _).mono ?_
          rintro e w' ⟨rfl, rfl⟩
          go_wp2_with fail
          go_roundw
          case rel => exact ⟨i, (i : Int) - 1, ab, rfl, by first | rfl | go_num, Lib.hid (by omega), by omega, Lib.hid (by rw [hab.out]; exact decide_eq_decide.2 (by omega)), HA3, Lib.hid B3⟩
          case measure => first | (simp [intOf]; done) | (simp [intOf]; omega)
      · as_aux_lemma =>
        have hib : ((i : Int) == 0) = false := by rw [beq_eq_false_iff_ne]; omega
        have hi1 : 1 ≤ (i : Int) := by omega
        have hi1' : (i : Int) - 1 < 6 := by omega
        have hi1t : ((i : Int) - 1).toNat = i - 1 := by omega
        clear hz
        by_cases hij : i = j
        · have hN := HNJ.out i hij
          have hs := HSD.out hij
          have HN1 := Lib.hid hN
          rw [hN] at HSI hbc c0 hnl hsd
          rw [hs] at HSI hbc hsd
          rw [HN0.out] at hbc hN63 hsd
          have HIJ := Lib.hid hij
          clear hN hs hsd hij
          generalize sdv leaf j = sj at *
          go_wp2_with fail
          refine (HSI.out _).mono ?_
          rintro e w3 ⟨rfl, b3⟩
          have HA3 := Lib.hid (HA.out.below b3)
          have B3 := HBB.out.trans (b3.mono hbs)
          have d0 := HA3.out.cell i (by rw [pathL_len]; omega)
          rw [path_at leaf i hi6, HN1.out] at d0
          have d1 := HA3.out.cell (i - 1) (by rw [pathL_len]; omega)
          rw [path_at leaf (i - 1) (by omega), show i - 1 + 1 = i from by omega, HN0.out] at d1
          clear c0 b3
          go_wp2_with fail
          refine (hbc.out _).mono ?_
          rintro e w' ⟨rfl, rfl⟩
          go_wp2_with fail
          go_roundw
          case rel => exact ⟨i, (i : Int) - 1, true, rfl, by first | rfl | go_num, Lib.hid (by omega), by omega, Lib.hid (by have := HIJ.out; rw [decide_eq_true (by omega)]), HA3, Lib.hid B3⟩
          case measure => first | (simp [intOf]; done) | (simp [intOf]; omega)
        · have hne : ((nd leaf (i + 1) : Int) == (n : Int)) = false := by have := HNE.out i hi6 hij; rw [beq_eq_false_iff_ne]; omega
          rw [HN0.out] at hbc hN63 hsd
          rw [HN1.out] at HSI hbc c0 hne hnl hsd
          generalize sdv leaf i = sd at HSI hbc hsd
          clear hsd
          go_wp2_with fail
          refine (HSI.out _).mono ?_
          rintro e w3 ⟨rfl, b3⟩
          have HA3 := Lib.hid (HA.out.below b3)
          have B3 := HBB.out.trans (b3.mono hbs)
          have d0 := HA3.out.cell i (by rw [pathL_len]; omega)
          rw [path_at leaf i hi6, HN1.out] at d0
          have d1 := HA3.out.cell (i - 1) (by rw [pathL_len]; omega)
          rw [path_at leaf (i - 1) (by omega), show i - 1 + 1 = i from by omega, HN0.out] at d1
          clear c0 b3
          go_wp2_with fail
          refine (hbc.out _).mono ?_
          rintro e w' ⟨rfl, rfl⟩
          go_wp2_with fail
          go_roundw
          case rel => exact ⟨i, (i : Int) - 1, ab, rfl, by first | rfl | go_num, Lib.hid (by omega), by omega, Lib.hid (by rw [hab.out]; exact decide_eq_decide.2 (by omega)), HA3, Lib.hid B3⟩
          case measure => first | (simp [intOf]; done) | (simp [intOf]; omega)
set_option maxRecDepth 100000 in
set_option maxHeartbeats 4000000 in
theorem npH_c5 (leaf j : Nat) (n : Nat) (k : Int) (w : World) (hG : Gl w) (h1 : (n : Int) < 63) (h0 : 0 ≤ (n : Int)) (h2 : ¬ 2 * (n : Int) + 1 < 63) (HK : Hid (k = 2 * (n : Int) + 1 - 63)) (hl : leaf < 64) (hj : j < 6) (HNJ : Hid (∀ i, i = j → nd leaf (i + 1) = n)) (HNE : Hid (∀ i, i < 6 → i ≠ j → nd leaf (i + 1) ≠ n)) :
    Calls Tryd.prog 3 #[.int .i64 (leaf : Int), .int .i64 (n : Int), .int .i64 0] w fun e w' => e = .returned (.bool true) ∧ Below w.heap.size w w' := by
  have h3 : 63 ≤ 2 * (n : Int) + 1 := by omega
  have h3b : 62 ≤ 2 * (n : Int) := by omega
  have h3d : decide (63 ≤ 2 * (n : Int) + 1) = true := decide_eq_true h3
  have h3e : decide (2 * (n : Int) + 1 < 63) = false := decide_eq_false h2
  have hkb : (k != 2 * (n : Int) + 1 - 63) = false := by rw [HK.out]; simp
  have hkb2 : (k != 2 * (n : Int) - 62) = false := by rw [HK.out, show 2 * (n : Int) + 1 - 63 = 2 * (n : Int) - 62 from by omega]; simp
  have HB := Lib.hid (fun w => below_leaf0 n w h1 h0 h2 k HK)
  clear HK
  have hl1 : ¬ (leaf : Int) < 0 := by omega
  have hl2 : ¬ 63 < (leaf : Int) := by omega
  have HP := Lib.hid (fun w => path_yes leaf w hl)
  have hs2 := (sdv_two leaf j hl hj).1
  have HS := Lib.hid (fun w => side_hit leaf j w hl hj)
  rw [HNJ.out j rfl] at HS
  go_enter Tryd.func3, Tryd.ntmps3
  go_wp2_with fail
  refine (HP.out _).mono ?_
  rintro e w1 ⟨v, rfl, HO, B1⟩
  obtain ⟨gp, cp, rfl, hgc, hgb, hgl, hr⟩ := own_rowI HO (by omega)
  have HA1 := Lib.hid (show NAt w1 gp (pathL leaf 6) from ⟨hr, hgl⟩)
  clear HO hr
  go_wp2_with fail
  refine (HS.out _).mono ?_
  rintro e w2 ⟨rfl, b2⟩
  have HA2 := Lib.hid (HA1.out.below b2)
  have B2 := B1.trans (b2.mono B1.size)
  clear HA1 b2 B1
  have c5 := HA2.out.cell 5 (by rw [pathL_len]; omega)
  rw [path_at leaf 5 (by omega), nd_6 leaf hl] at c5
  go_wp2_with fail
  refine (HB.out _).mono ?_
  rintro e w' ⟨rfl, rfl⟩
  go_wp2_with fail
  clear c5 HB
  go_loopw [16, 17] (fun x y wi => ∃ (k : Nat) (z : Int) (ab : Bool), x = .bool ab ∧ y = .int .i64 z ∧ Hid (z = (k : Int) - 1) ∧ k ≤ 6 ∧ Hid (ab = decide (k ≤ j)) ∧ Hid (NAt wi gp (pathL leaf 6)) ∧ Hid (Below w.heap.size w wi)) (fun _ y _ => (intOf y + 1).toNat)
  case atStart => exact ⟨6, 5, false, rfl, rfl, Lib.hid (by omega), by omega, Lib.hid (by rw [decide_eq_false (by omega)]), HA2, Lib.hid B2⟩
  clear HA2 B2
  case round =>
    obtain ⟨k, z, ab, rfl, rfl, HZ, hk, hab, HA, HBB⟩ := hrel
    have G1 := hG.below HBB.out
    have hbs := HBB.out.size
    cases k with
    | zero => as_aux_lemma =>
      obtain rfl : z = -1 := by have := HZ.out; omega
      obtain rfl : ab = true := by rw [hab.out]; exact decide_eq_true (Nat.zero_le _)
      go_wp2_with fail
      refine (awake17 _ G1).mono ?_
      rintro e w' ⟨rfl, B⟩
      go_wp2_with fail
      go_ret
      exact ⟨rfl, HBB.out.trans (B.mono hbs)⟩
    | succ i =>
      obtain rfl : z = (i : Int) := by have := HZ.out; omega
      clear HZ
      have hi6 : i < 6 := by omega
      have hi0 : 0 ≤ (i : Int) := by omega
      have hi5 : (i : Int) < 6 := by omega
      have c0 := HA.out.cell i (by rw [pathL_len]; omega)
      rw [path_at leaf i hi6] at c0
      have hsd := sdv_two leaf i hl hi6
      have hnl := (nd_two leaf i hl hi6).1
      have hbi : (i = 0 ∧ Hid (∀ w, Calls Tryd.prog 11 #[.int .i64 (nd leaf (i + 1) : Int), .int .i64 (sdv leaf i : Int)] w fun e w' => e = .returned (.tuple #[.int .i64 (leaf : Int), .bool true, .int .i64 0]) ∧ w = w')) ∨ (∃ i', i = i' + 1 ∧ nd leaf i < 63 ∧ Hid (∀ w, Calls Tryd.prog 11 #[.int .i64 (nd leaf (i + 1) : Int), .int .i64 (sdv leaf i : Int)] w fun e w' => e = .returned (.tuple #[.int .i64 (nd leaf i : Int), .bool false, .int .i64 0]) ∧ w = w')) := round_below leaf i hl hi6
      have HSI := Lib.hid (fun w => side_hit leaf i w hl hi6)
      have HSD : Hid (i = j → sdv leaf i = sdv leaf j) := Lib.hid (fun e => by rw [e])
      obtain ⟨N1, HN1⟩ : ∃ N1, Hid (nd leaf (i + 1) = N1) := ⟨_, Lib.hid rfl⟩
      obtain ⟨N0, HN0⟩ : ∃ N0, Hid (nd leaf i = N0) := ⟨_, Lib.hid rfl⟩
      rcases hbi with ⟨hz, hbc⟩ | ⟨i', hz, hN63, hbc⟩
      · as_aux_lemma =>
        have hib : ((i : Int) == 0) = true := by rw [beq_iff_eq]; omega
        have hz0 : (i : Int) ≤ 0 := by omega
        clear hz
        by_cases hij : i = j
        · have hN := HNJ.out i hij
          have hs := HSD.out hij
          have HN1 := Lib.hid hN
          rw [hN] at HSI hbc c0 hnl hsd
          rw [hs] at HSI hbc hsd
          have HIJ := Lib.hid hij
          clear hN hs hsd hij
          generalize sdv leaf j = sj at *
          go_wp2_with fail
          refine (HSI.out _).mono ?_
          rintro e w3 ⟨rfl, b3⟩
          have HA3 := Lib.hid (HA.out.below b3)
          have B3 := HBB.out.trans (b3.mono hbs)
          have d0 := HA3.out.cell i (by rw [pathL_len]; omega)
          rw [path_at leaf i hi6, HN1.out] at d0
          clear c0 b3
          go_wp2_with fail
          refine (hbc.out _).mono ?_
          rintro e w' ⟨rfl, rfl⟩
          go_wp2_with fail
          go_roundw
          case rel => exact ⟨i, (i : Int) - 1, true, rfl, by first | rfl | go_num, Lib.hid (by omega), by omega, Lib.hid (by have := HIJ.out; rw [decide_eq_true (by omega)]), HA3, Lib.hid B3⟩
          case measure => first | (simp [intOf]; done) | (simp [intOf]; omega)
        · have hne : ((nd leaf (i + 1) : Int) == (n : Int)) = false := by have := HNE.out i hi6 hij; rw [beq_eq_false_iff_ne]; omega
          rw [HN1.out] at HSI hbc c0 hne hnl hsd
          generalize sdv leaf i = sd at HSI hbc hsd
          clear hsd
          go_wp2_with fail
          refine (HSI.out _).mono ?_
          rintro e w3 ⟨rfl, b3⟩
          have HA3 := Lib.hid (HA.out.below b3)
          have B3 := HBB.out.trans (b3.mono hbs)
          have d0 := HA3.out.cell i (by rw [pathL_len]; omega)
          rw [path_at leaf i hi6, HN1.out] at d0
          clear c0 b3
          go_wp2_with fail
          refine (hbc.out _).mono ?_
          rintro e w' ⟨rfl, rfl⟩
          go_wp2_with fail
          go_roundw
          case rel => exact ⟨i, (i : Int) - 1, ab, rfl, by first | rfl | go_num, Lib.hid (by omega), by omega, Lib.hid (by rw [hab.out]; exact decide_eq_decide.2 (by omega)), HA3, Lib.hid B3⟩
          case measure => first | (simp [intOf]; done) | (simp [intOf]; omega)
      · as_aux_lemma =>
        have hib : ((i : Int) == 0) = false := by rw [beq_eq_false_iff_ne]; omega
        have hi1 : 1 ≤ (i : Int) := by omega
        have hi1' : (i : Int) - 1 < 6 := by omega
        have hi1t : ((i : Int) - 1).toNat = i - 1 := by omega
        clear hz
        by_cases hij : i = j
        · have hN := HNJ.out i hij
          have hs := HSD.out hij
          have HN1 := Lib.hid hN
          rw [hN] at HSI hbc c0 hnl hsd
          rw [hs] at HSI hbc hsd
          rw [HN0.out] at hbc hN63 hsd
          have HIJ := Lib.hid hij
          clear hN hs hsd hij
          generalize sdv leaf j = sj at *
          go_wp2_with fail
          refine (HSI.out _).mono ?_
          rintro e w3 ⟨rfl, b3⟩
          have HA3 := Lib.hid (HA.out.below b3)
          have B3 := HBB.out.trans (b3.mono hbs)
          have d0 := HA3.out.cell i (by rw [pathL_len]; omega)
          rw [path_at leaf i hi6, HN1.out] at d0
          have d1 := HA3.out.cell (i - 1) (by rw [pathL_len]; omega)
          rw [path_at leaf (i - 1) (by omega), show i - 1 + 1 = i from by omega, HN0.out] at d1
          clear c0 b3
          go_wp2_with fail
          refine (hbc.out _).mono ?_
          rintro e w' ⟨rfl, rfl⟩
          go_wp2_with fail
          go_roundw
          case rel => exact ⟨i, (i : Int) - 1, true, rfl, by first | rfl | go_num, Lib.hid (by omega), by omega, Lib.hid (by have := HIJ.out; rw [decide_eq_true (by omega)]), HA3, Lib.hid B3⟩
          case measure => first | (simp [intOf]; done) | (simp [intOf]; omega)
        · have hne : ((nd leaf (i + 1) : Int) == (n : Int)) = false := by have := HNE.out i hi6 hij; rw [beq_eq_false_iff_ne]; omega
          rw [HN0.out] at hbc hN63 hsd
          rw [HN1.out] at HSI hbc c0 hne hnl hsd
          generalize sdv leaf i = sd at HSI hbc hsd
          clear hsd
          go_wp2_with fail
          refine (HSI.out _).mono ?_
          rintro e w3 ⟨rfl, b3⟩
          have HA3 := Lib.hid (HA.out.below b3)
          have B3 := HBB.out.trans (b3.mono hbs)
          have d0 := HA3.out.cell i (by rw [pathL_len]; omega)
          rw [path_at leaf i hi6, HN1.out] at d0
          have d1 := HA3.out.cell (i - 1) (by rw [pathL_len]; omega)
          rw [path_at leaf (i - 1) (by omega), show i - 1 + 1 = i from by omega, HN0.out] at d1
          clear c0 b3
          go_wp2_with fail
          refine (hbc.out _).mono ?_
          rintro e w' ⟨rfl, rfl⟩
          go_wp2_with fail
          go_roundw
          case rel => exact ⟨i, (i : Int) - 1, ab, rfl, by first | rfl | go_num, Lib.hid (by omega), by omega, Lib.hid (by rw [hab.out]; exact decide_eq_decide.2 (by omega)), HA3, Lib.hid B3⟩
          case measure => first | (simp [intOf]; done) | (simp [intOf]; omega)
set_option maxRecDepth 100000 in
set_option maxHeartbeats 4000000 in
theorem npH_c6 (leaf j : Nat) (n : Nat) (k : Int) (w : World) (hG : Gl w) (h1 : (n : Int) < 63) (h0 : 0 ≤ (n : Int)) (h2 : 2 * (n : Int) + 1 + 1 < 63) (HK : Hid (k = 2 * (n : Int) + 1 + 1)) (hl : leaf < 64) (hj : j < 6) (HNJ : Hid (∀ i, i = j → nd leaf (i + 1) = n)) (HNE : Hid (∀ i, i < 6 → i ≠ j → nd leaf (i + 1) ≠ n)) :
    Calls Tryd.prog 3 #[.int .i64 (leaf : Int), .int .i64 (n : Int), .int .i64 1] w fun e w' => e = .returned (.bool true) ∧ Below w.heap.size w w' := by
  have hkb : (k != 2 * (n : Int) + 1 + 1) = false := by rw [HK.out]; simp
  have hkb2 : (k != 2 * (n : Int) + 2) = false := by rw [HK.out, show 2 * (n : Int) + 1 + 1 = 2 * (n : Int) + 2 from by omega]; simp
  have HB := Lib.hid (fun w => below_node1 n w h1 h0 h2 k HK)
  clear HK
  have hl1 : ¬ (leaf : Int) < 0 := by omega
  have hl2 : ¬ 63 < (leaf : Int) := by omega
  have HP := Lib.hid (fun w => path_yes leaf w hl)
  have hs2 := (sdv_two leaf j hl hj).1
  have HS := Lib.hid (fun w => side_hit leaf j w hl hj)
  rw [HNJ.out j rfl] at HS
  go_enter Tryd.func3, Tryd.ntmps3
  go_wp2_with fail
  refine (HP.out _).mono ?_
  rintro e w1 ⟨v, rfl, HO, B1⟩
  obtain ⟨gp, cp, rfl, hgc, hgb, hgl, hr⟩ := own_rowI HO (by omega)
  have HA1 := Lib.hid (show NAt w1 gp (pathL leaf 6) from ⟨hr, hgl⟩)
  clear HO hr
  go_wp2_with fail
  refine (HS.out _).mono ?_
  rintro e w2 ⟨rfl, b2⟩
  have HA2 := Lib.hid (HA1.out.below b2)
  have B2 := B1.trans (b2.mono B1.size)
  clear HA1 b2 B1
  have c5 := HA2.out.cell 5 (by rw [pathL_len]; omega)
  rw [path_at leaf 5 (by omega), nd_6 leaf hl] at c5
  go_wp2_with fail
  refine (HB.out _).mono ?_
  rintro e w' ⟨rfl, rfl⟩
  go_wp2_with fail
  clear c5 HB
  go_loopw [16, 17] (fun x y wi => ∃ (k : Nat) (z : Int) (ab : Bool), x = .bool ab ∧ y = .int .i64 z ∧ Hid (z = (k : Int) - 1) ∧ k ≤ 6 ∧ Hid (ab = decide (k ≤ j)) ∧ Hid (NAt wi gp (pathL leaf 6)) ∧ Hid (Below w.heap.size w wi)) (fun _ y _ => (intOf y + 1).toNat)
  case atStart => exact ⟨6, 5, false, rfl, rfl, Lib.hid (by omega), by omega, Lib.hid (by rw [decide_eq_false (by omega)]), HA2, Lib.hid B2⟩
  clear HA2 B2
  case round =>
    obtain ⟨k, z, ab, rfl, rfl, HZ, hk, hab, HA, HBB⟩ := hrel
    have G1 := hG.below HBB.out
    have hbs := HBB.out.size
    cases k with
    | zero => as_aux_lemma =>
      obtain rfl : z = -1 := by have := HZ.out; omega
      obtain rfl : ab = true := by rw [hab.out]; exact decide_eq_true (Nat.zero_le _)
      go_wp2_with fail
      refine (awake17 _ G1).mono ?_
      rintro e w' ⟨rfl, B⟩
      go_wp2_with fail
      go_ret
      exact ⟨rfl, HBB.out.trans (B.mono hbs)⟩
    | succ i =>
      obtain rfl : z = (i : Int) := by have := HZ.out; omega
      clear HZ
      have hi6 : i < 6 := by omega
      have hi0 : 0 ≤ (i : Int) := by omega
      have hi5 : (i : Int) < 6 := by omega
      have c0 := HA.out.cell i (by rw [pathL_len]; omega)
      rw [path_at leaf i hi6] at c0
      have hsd := sdv_two leaf i hl hi6
      have hnl := (nd_two leaf i hl hi6).1
      have hbi : (i = 0 ∧ Hid (∀ w, Calls Tryd.prog 11 #[.int .i64 (nd leaf (i + 1) : Int), .int .i64 (sdv leaf i : Int)] w fun e w' => e = .returned (.tuple #[.int .i64 (leaf : Int), .bool true, .int .i64 0]) ∧ w = w')) ∨ (∃ i', i = i' + 1 ∧ nd leaf i < 63 ∧ Hid (∀ w, Calls Tryd.prog 11 #[.int .i64 (nd leaf (i + 1) : Int), .int .i64 (sdv leaf i : Int)] w fun e w' => e = .returned (.tuple #[.int .i64 (nd leaf i : Int), .bool false, .int .i64 0]) ∧ w = w')) := round_below leaf i hl hi6
      have HSI := Lib.hid (fun w => side_hit leaf i w hl hi6)
      have HSD : Hid (i = j → sdv leaf i = sdv leaf j) := Lib.hid (fun e => by rw [e])
      obtain ⟨N1, HN1⟩ : ∃ N1, Hid (nd leaf (i + 1) = N1) := ⟨_, Lib.hid rfl⟩
      obtain ⟨N0, HN0⟩ : ∃ N0, Hid (nd leaf i = N0) := ⟨_, Lib.hid rfl⟩
      rcases hbi with ⟨hz, hbc⟩ | ⟨i', hz, hN63, hbc⟩
      · as_aux_lemma =>
        have hib : ((i : Int) == 0) = true := by rw [beq_iff_eq]; omega
        have hz0 : (i : Int) ≤ 0 := by omega
        clear hz
        by_cases hij : i = j
        · have hN := HNJ.out i hij
          have hs := HSD.out hij
          have HN1 := Lib.hid hN
          rw [hN] at HSI hbc c0 hnl hsd
          rw [hs] at HSI hbc hsd
          have HIJ := Lib.hid hij
          clear hN hs hsd hij
          generalize sdv leaf j = sj at *
          go_wp2_with fail
          refine (HSI.out _).mono ?_
          rintro e w3 ⟨rfl, b3⟩
          have HA3 := Lib.hid (HA.out.below b3)
          have B3 := HBB.out.trans (b3.mono hbs)
          have d0 := HA3.out.cell i (by rw [pathL_len]; omega)
          rw [path_at leaf i hi6, HN1.out] at d0
          clear c0 b3
          go_wp2_with fail
          refine (hbc.out _).mono ?_
          rintro e w' ⟨rfl, rfl⟩
          go_wp2_with fail
          go_roundw
          case rel => exact ⟨i, (i : Int) - 1, true, rfl, by first | rfl | go_num, Lib.hid (by omega), by omega, Lib.hid (by have := HIJ.out; rw [decide_eq_true (by omega)]), HA3, Lib.hid B3⟩
          case measure => first | (simp [intOf]; done) | (simp [intOf]; omega)
        · have hne : ((nd leaf (i + 1) : Int) == (n : Int)) = false := by have := HNE.out i hi6 hij; rw [beq_eq_false_iff_ne]; omega
          rw [HN1.out] at HSI hbc c0 hne hnl hsd
          generalize sdv leaf i = sd at HSI hbc hsd
          clear hsd
          go_wp2_with fail
          refine (HSI.out _).mono ?_
          rintro e w3 ⟨rfl, b3⟩
          have HA3 := Lib.hid (HA.out.below b3)
          have B3 := HBB.out.trans (b3.mono hbs)
          have d0 := HA3.out.cell i (by rw [pathL_len]; omega)
          rw [path_at leaf i hi6, HN1.out] at d0
          clear c0 b3
          go_wp2_with fail
          refine (hbc.out _).mono ?_
          rintro e w' ⟨rfl, rfl⟩
          go_wp2_with fail
          go_roundw
          case rel => exact ⟨i, (i : Int) - 1, ab, rfl, by first | rfl | go_num, Lib.hid (by omega), by omega, Lib.hid (by rw [hab.out]; exact decide_eq_decide.2 (by omega)), HA3, Lib.hid B3⟩
          case measure => first | (simp [intOf]; done) | (simp [intOf]; omega)
      · as_aux_lemma =>
        have hib : ((i : Int) == 0) = false := by rw [beq_eq_false_iff_ne]; omega
        have hi1 : 1 ≤ (i : Int) := by omega
        have hi1' : (i : Int) - 1 < 6 := by omega
        have hi1t : ((i : Int) - 1).toNat = i - 1 := by omega
        clear hz
        by_cases hij : i = j
        · have hN := HNJ.out i hij
          have hs := HSD.out hij
          have HN1 := Lib.hid hN
          rw [hN] at HSI hbc c0 hnl hsd
          rw [hs] at HSI hbc hsd
          rw [HN0.out] at hbc hN63 hsd
          have HIJ := Lib.hid hij
          clear hN hs hsd hij
          generalize sdv leaf j = sj at *
          go_wp2_with fail
          refine (HSI.out _).mono ?_
          rintro e w3 ⟨rfl, b3⟩
          have HA3 := Lib.hid (HA.out.below b3)
          have B3 := HBB.out.trans (b3.mono hbs)
          have d0 := HA3.out.cell i (by rw [pathL_len]; omega)
          rw [path_at leaf i hi6, HN1.out] at d0
          have d1 := HA3.out.cell (i - 1) (by rw [pathL_len]; omega)
          rw [path_at leaf (i - 1) (by omega), show i - 1 + 1 = i from by omega, HN0.out] at d1
          clear c0 b3
          go_wp2_with fail
          refine (hbc.out _).mono ?_
          rintro e w' ⟨rfl, rfl⟩
          go_wp2_with fail
          go_roundw
          case rel => exact ⟨i, (i : Int) - 1, true, rfl, by first | rfl | go_num, Lib.hid (by omega), by omega, Lib.hid (by have := HIJ.out; rw [decide_eq_true (by omega)]), HA3, Lib.hid B3⟩
          case measure => first | (simp [intOf]; done) | (simp [intOf]; omega)
        · have hne : ((nd leaf (i + 1) : Int) == (n : Int)) = false := by have := HNE.out i hi6 hij; rw [beq_eq_false_iff_ne]; omega
          rw [HN0.out] at hbc hN63 hsd
          rw [HN1.out] at HSI hbc c0 hne hnl hsd
          generalize sdv leaf i = sd at HSI hbc hsd
          clear hsd
          go_wp2_with fail
          refine (HSI.out _).mono ?_
          rintro e w3 ⟨rfl, b3⟩
          have HA3 := Lib.hid (HA.out.below b3)
          have B3 := HBB.out.trans (b3.mono hbs)
          have d0 := HA3.out.cell i (by rw [pathL_len]; omega)
          rw [path_at leaf i hi6, HN1.out] at d0
          have d1 := HA3.out.cell (i - 1) (by rw [pathL_len]; omega)
          rw [path_at leaf (i - 1) (by omega), show i - 1 + 1 = i from by omega, HN0.out] at d1
          clear c0 b3
          go_wp2_with fail
          refine (hbc.out _).mono ?_
          rintro e w' ⟨rfl, rfl⟩
          go_wp2_with fail
          go_roundw
          case rel => exact ⟨i, (i : Int) - 1, ab, rfl, by first | rfl | go_num, Lib.hid (by omega), by omega, Lib.hid (by rw [hab.out]; exact decide_eq_decide.2 (by omega)), HA3, Lib.hid B3⟩
          case measure => first | (simp [intOf]; done) | (simp [intOf]; omega)
set_option maxRecDepth 100000 in
set_option maxHeartbeats 4000000 in
theorem npH_c7 (leaf j : Nat) (n : Nat) (k : Int) (w : World) (hG : Gl w) (h1 : (n : Int) < 63) (h0 : 0 ≤ (n : Int)) (h2 : ¬ 2 * (n : Int) + 1 + 1 < 63) (HK : Hid (k = 2 * (n : Int) + 1 + 1 - 63)) (hl : leaf < 64) (hj : j < 6) (HNJ : Hid (∀ i, i = j → nd leaf (i + 1) = n)) (HNE : Hid (∀ i, i < 6 → i ≠ j → nd leaf (i + 1) ≠ n)) :
    Calls Tryd.prog 3 #[.int .i64 (leaf : Int), .int .i64 (n : Int), .int .i64 1] w fun e w' => e = .returned (.bool true) ∧ Below w.heap.size w w' := by
  have h3 : 63 ≤ 2 * (n : Int) + 1 + 1 := by omega
  have h3b : 62 ≤ 2 * (n : Int) + 1 := by omega
  have h3c : 61 ≤ 2 * (n : Int) := by omega
  have h3d : decide (63 ≤ 2 * (n : Int) + 1 + 1) = true := decide_eq_true h3
  have h3e : decide (2 * (n : Int) + 1 + 1 < 63) = false := decide_eq_false h2
  have hkb : (k != 2 * (n : Int) + 1 + 1 - 63) = false := by rw [HK.out]; simp
  have hkb2 : (k != 2 * (n : Int) - 61) = false := by rw [HK.out, show 2 * (n : Int) + 1 + 1 - 63 = 2 * (n : Int) - 61 from by omega]; simp
  have HB := Lib.hid (fun w => below_leaf1 n w h1 h0 h2 k HK)
  clear HK
  have hl1 : ¬ (leaf : Int) < 0 := by omega
  have hl2 : ¬ 63 < (leaf : Int) := by omega
  have HP := Lib.hid (fun w => path_yes leaf w hl)
  have hs2 := (sdv_two leaf j hl hj).1
  have HS := Lib.hid (fun w => side_hit leaf j w hl hj)
  rw [HNJ.out j rfl] at HS
  go_enter Tryd.func3, Tryd.ntmps3
  go_wp2_with fail
  refine (HP.out _).mono ?_
  rintro e w1 ⟨v, rfl, HO, B1⟩
  obtain ⟨gp, cp, rfl, hgc, hgb, hgl, hr⟩ := own_rowI HO (by omega)
  have HA1 := Lib.hid (show NAt w1 gp (pathL leaf 6) from ⟨hr, hgl⟩)
  clear HO hr
  go_wp2_with fail
  refine (HS.out _).mono ?_
  rintro e w2 ⟨rfl, b2⟩
  have HA2 := Lib.hid (HA1.out.below b2)
  have B2 := B1.trans (b2.mono B1.size)
  clear HA1 b2 B1
  have c5 := HA2.out.cell 5 (by rw [pathL_len]; omega)
  rw [path_at leaf 5 (by omega), nd_6 leaf hl] at c5
  go_wp2_with fail
  refine (HB.out _).mono ?_
  rintro e w' ⟨rfl, rfl⟩
  go_wp2_with fail
  clear c5 HB
  go_loopw [16, 17] (fun x y wi => ∃ (k : Nat) (z : Int) (ab : Bool), x = .bool ab ∧ y = .int .i64 z ∧ Hid (z = (k : Int) - 1) ∧ k ≤ 6 ∧ Hid (ab = decide (k ≤ j)) ∧ Hid (NAt wi gp (pathL leaf 6)) ∧ Hid (Below w.heap.size w wi)) (fun _ y _ => (intOf y + 1).toNat)
  case atStart => exact ⟨6, 5, false, rfl, rfl, Lib.hid (by omega), by omega, Lib.hid (by rw [decide_eq_false (by omega)]), HA2, Lib.hid B2⟩
  clear HA2 B2
  case round =>
    obtain ⟨k, z, ab, rfl, rfl, HZ, hk, hab, HA, HBB⟩ := hrel
    have G1 := hG.below HBB.out
    have hbs := HBB.out.size
    cases k with
    | zero => as_aux_lemma =>
      obtain rfl : z = -1 := by have := HZ.out; omega
      obtain rfl : ab = true := by rw [hab.out]; exact decide_eq_true (Nat.zero_le _)
      go_wp2_with fail
      refine (awake17 _ G1).mono ?_
      rintro e w' ⟨rfl, B⟩
      go_wp2_with fail
      go_ret
      exact ⟨rfl, HBB.out.trans (B.mono hbs)⟩
    | succ i =>
      obtain rfl : z = (i : Int) := by have := HZ.out; omega
      clear HZ
      have hi6 : i < 6 := by omega
      have hi0 : 0 ≤ (i : Int) := by omega
      have hi5 : (i : Int) < 6 := by omega
      have c0 := HA.out.cell i (by rw [pathL_len]; omega)
      rw [path_at leaf i hi6] at c0
      have hsd := sdv_two leaf i hl hi6
      have hnl := (nd_two leaf i hl hi6).1
      have hbi : (i = 0 ∧ Hid (∀ w, Calls Tryd.prog 11 #[.int .i64 (nd leaf (i + 1) : Int), .int .i64 (sdv leaf i : Int)] w fun e w' => e = .returned (.tuple #[.int .i64 (leaf : Int), .bool true, .int .i64 0]) ∧ w = w')) ∨ (∃ i', i = i' + 1 ∧ nd leaf i < 63 ∧ Hid (∀ w, Calls Tryd.prog 11 #[.int .i64 (nd leaf (i + 1) : Int), .int .i64 (sdv leaf i : Int)] w fun e w' => e = .returned (.tuple #[.int .i64 (nd leaf i : Int), .bool false, .int .i64 0]) ∧ w = w')) := round_below leaf i hl hi6
      have HSI := Lib.hid (fun w => side_hit leaf i w hl hi6)
      have HSD : Hid (i = j → sdv leaf i = sdv leaf j) := Lib.hid (fun e => by rw [e])
      obtain ⟨N1, HN1⟩ : ∃ N1, Hid (nd leaf (i + 1) = N1) := ⟨_, Lib.hid rfl⟩
      obtain ⟨N0, HN0⟩ : ∃ N0, Hid (nd leaf i = N0) := ⟨_, Lib.hid rfl⟩
      rcases hbi with ⟨hz, hbc⟩ | ⟨i', hz, hN63, hbc⟩
      · as_aux_lemma =>
        have hib : ((i : Int) == 0) = true := by rw [beq_iff_eq]; omega
        have hz0 : (i : Int) ≤ 0 := by omega
        clear hz
        by_cases hij : i = j
        · have hN := HNJ.out i hij
          have hs := HSD.out hij
          have HN1 := Lib.hid hN
          rw [hN] at HSI hbc c0 hnl hsd
          rw [hs] at HSI hbc hsd
          have HIJ := Lib.hid hij
          clear hN hs hsd hij
          generalize sdv leaf j = sj at *
          go_wp2_with fail
          refine (HSI.out _).mono ?_
          rintro e w3 ⟨rfl, b3⟩
          have HA3 := Lib.hid (HA.out.below b3)
          have B3 := HBB.out.trans (b3.mono hbs)
          have d0 := HA3.out.cell i (by rw [pathL_len]; omega)
          rw [path_at leaf i hi6, HN1.out] at d0
          clear c0 b3
          go_wp2_with fail
          refine (hbc.out _).mono ?_
          rintro e w' ⟨rfl, rfl⟩
          go_wp2_with fail
          go_roundw
          case rel => exact ⟨i, (i : Int) - 1, true, rfl, by first | rfl | go_num, Lib.hid (by omega), by omega, Lib.hid (by have := HIJ.out; rw [decide_eq_true (by omega)]), HA3, Lib.hid B3⟩
          case measure => first | (simp [intOf]; done) | (simp [intOf]; omega)
        · have hne : ((nd leaf (i + 1) : Int) == (n : Int)) = false := by have := HNE.out i hi6 hij; rw [beq_eq_false_iff_ne]; omega
          rw [HN1.out] at HSI hbc c0 hne hnl hsd
          generalize sdv leaf i = sd at HSI hbc hsd
          clear hsd
          go_wp2_with fail
          refine (HSI.out _).mono ?_
          rintro e w3 ⟨rfl, b3⟩
          have HA3 := Lib.hid (HA.out.below b3)
          have B3 := HBB.out.trans (b3.mono hbs)
          have d0 := HA3.out.cell i (by rw [pathL_len]; omega)
          rw [path_at leaf i hi6, HN1.out] at d0
          clear c0 b3
          go_wp2_with fail
          refine (hbc.out _).mono ?_
          rintro e w' ⟨rfl, rfl⟩
          go_wp2_with fail
          go_roundw
          case rel => exact ⟨i, (i : Int) - 1, ab, rfl, by first | rfl | go_num, Lib.hid (by omega), by omega, Lib.hid (by rw [hab.out]; exact decide_eq_decide.2 (by omega)), HA3, Lib.hid B3⟩
          case measure => first | (simp [intOf]; done) | (simp [intOf]; omega)
      · as_aux_lemma =>
        have hib : ((i : Int) == 0) = false := by rw [beq_eq_false_iff_ne]; omega
        have hi1 : 1 ≤ (i : Int) := by omega
        have hi1' : (i : Int) - 1 < 6 := by omega
        have hi1t : ((i : Int) - 1).toNat = i - 1 := by omega
        clear hz
        by_cases hij : i = j
        · have hN := HNJ.out i hij
          have hs := HSD.out hij
          have HN1 := Lib.hid hN
          rw [hN] at HSI hbc c0 hnl hsd
          rw [hs] at HSI hbc hsd
          rw [HN0.out] at hbc hN63 hsd
          have HIJ := Lib.hid hij
          clear hN hs hsd hij
          generalize sdv leaf j = sj at *
          go_wp2_with fail
          refine (HSI.out _).mono ?_
          rintro e w3 ⟨rfl, b3⟩
          have HA3 := Lib.hid (HA.out.below b3)
          have B3 := HBB.out.trans (b3.mono hbs)
          have d0 := HA3.out.cell i (by rw [pathL_len]; omega)
          rw [path_at leaf i hi6, HN1.out] at d0
          have d1 := HA3.out.cell (i - 1) (by rw [pathL_len]; omega)
          rw [path_at leaf (i - 1) (by omega), show i - 1 + 1 = i from by omega, HN0.out] at d1
          clear c0 b3
          go_wp2_with fail
          refine (hbc.out _).mono ?_
          rintro e w' ⟨rfl, rfl⟩
          go_wp2_with fail
          go_roundw
          case rel => exact ⟨i, (i : Int) - 1, true, rfl, by first | rfl | go_num, Lib.hid (by omega), by omega, Lib.hid (by have := HIJ.out; rw [decide_eq_true (by omega)]), HA3, Lib.hid B3⟩
          case measure => first | (simp [intOf]; done) | (simp [intOf]; omega)
        · have hne : ((nd leaf (i + 1) : Int) == (n : Int)) = false := by have := HNE.out i hi6 hij; rw [beq_eq_false_iff_ne]; omega
          rw [HN0.out] at hbc hN63 hsd
          rw [HN1.out] at HSI hbc c0 hne hnl hsd
          generalize sdv leaf i = sd at HSI hbc hsd
          clear hsd
          go_wp2_with fail
          refine (HSI.out _).mono ?_
          rintro e w3 ⟨rfl, b3⟩
          have HA3 := Lib.hid (HA.out.below b3)
          have B3 := HBB.out.trans (b3.mono hbs)
          have d0 := HA3.out.cell i (by rw [pathL_len]; omega)
          rw [path_at leaf i hi6, HN1.out] at d0
          have d1 := HA3.out.cell (i - 1) (by rw [pathL_len]; omega)
          rw [path_at leaf (i - 1) (by omega), show i - 1 + 1 = i from by omega, HN0.out] at d1
          clear c0 b3
          go_wp2_with fail
          refine (hbc.out _).mono ?_
          rintro e w' ⟨rfl, rfl⟩
          go_wp2_with fail
          go_roundw
          case rel => exact ⟨i, (i : Int) - 1, ab, rfl, by first | rfl | go_num, Lib.hid (by omega), by omega, Lib.hid (by rw [hab.out]; exact decide_eq_decide.2 (by omega)), HA3, Lib.hid B3⟩
          case measure => first | (simp [intOf]; done) | (simp [intOf]; omega)
end Go.Proofs.YtaopmiocompibaaDoor
