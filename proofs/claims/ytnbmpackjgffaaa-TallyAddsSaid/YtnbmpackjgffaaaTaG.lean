/- The contracts of the reference's Kinds, Errors, Reads. -/
import Derived.Test.YtnbmpackjgffaaaTaD
namespace Go.Proofs.Ytnbmpackjgffaaa
open Go.RowKit Go.Deep
set_option linter.unusedVariables false
set_option maxRecDepth 100000 in
set_option maxHeartbeats 1000000 in
theorem kinds_any (ao : Option Addr) (n c N κ : Nat) (K : Nat → Int) (w : World) (hn : n ≤ 4503599627370496) (hN : N ≤ n) (hκ : κ < 24) (hA : ActsAt w ao n K) :
    Calls Try.prog 8 #[.slice ao n c, .int .i64 N, .int .i64 κ] w fun e w' => e = .returned (.int .i64 (cnt (fun i => decide (kindI (K i) = (κ : Int))) N)) ∧ w = w' := by
  have HA := Lib.hid hA
  clear hA
  go_enter Try.func8, Try.ntmps8
  go_wp2
  go_loop [7, 8] (fun s x => ∃ i : Nat, x = .int .i64 i ∧ i ≤ N ∧ s = .int .i64 (cnt (fun i => decide (kindI (K i) = (κ : Int))) i)) (fun _ x => N - (intOf x).toNat)
  case atStart => exact ⟨0, rfl, by omega, rfl⟩
  case round =>
    obtain ⟨i, rfl, hi, rfl⟩ := hrel
    by_cases hlt : i < N
    · have hli : (i : Int) < N := by omega
      have hin : (i : Int) < n := by omega
      obtain ⟨ab, aoff, rfl, hab, hac⟩ := HA.out (by omega)
      obtain ⟨v1, v2, v3, v4, v5, v6, v7, v8, v9, v10, a0, _⟩ := hac i (by omega)
      have hb := cnt_bd (fun i => decide (kindI (K i) = (κ : Int))) i
      obtain ⟨hb1, hb2⟩ := hb
      have e3 : cnt (fun i => decide (kindI (K i) = (κ : Int))) (i + 1) = cnt (fun i => decide (kindI (K i) = (κ : Int))) i + (if decide (kindI (K i) = (κ : Int)) = true then 1 else 0) := rfl
      have hk : ∀ x : Int, (x = κ ∧ kindI x = κ) ∨ (¬ x = κ ∧ κ = 0 ∧ x < 1 ∧ kindI x = κ) ∨ (¬ x = κ ∧ κ = 0 ∧ ¬ x < 1 ∧ 23 < x ∧ kindI x = κ) ∨ (¬ x = κ ∧ κ = 0 ∧ ¬ x < 1 ∧ ¬ 23 < x ∧ ¬ kindI x = κ) ∨ (¬ x = κ ∧ ¬ κ = 0 ∧ ¬ kindI x = κ) := fun x => by
        unfold kindI
        split <;> omega
      have hkk := hk (K i)
      have hp : kindI (K i) = (κ : Int) → cnt (fun i => decide (kindI (K i) = (κ : Int))) (i + 1) = cnt (fun i => decide (kindI (K i) = (κ : Int))) i + 1 := fun h => by rw [e3, h]; simp
      have hq : ¬ kindI (K i) = (κ : Int) → cnt (fun i => decide (kindI (K i) = (κ : Int))) (i + 1) = cnt (fun i => decide (kindI (K i) = (κ : Int))) i := fun h => by rw [e3]; simp [h]
      have HP := Lib.hid hp
      have HQ := Lib.hid hq
      clear hp hq e3 hk hac
      generalize cnt (fun i => decide (kindI (K i) = (κ : Int))) i = s0 at *
      generalize K i = k at *
      rcases hkk with ⟨h1, h9⟩ | ⟨h1, h2, h3, h9⟩ | ⟨h1, h2, h3, h4, h9⟩ | ⟨h1, h2, h3, h4, h9⟩ | ⟨h1, h2, h9⟩
      · have E := Lib.hid (HP.out h9)
        clear h9 HP HQ
        go_wp2
        go_round
        case rel => exact ⟨i + 1, by go_num, by omega, by first | exact (congrArg (Value.int .i64) E.out).symm | exact E.out.symm⟩
        case measure => simp [intOf]; omega
      · have E := Lib.hid (HP.out h9)
        subst h2
        clear h9 HP HQ
        go_wp2
        go_round
        case rel => exact ⟨i + 1, by go_num, by omega, by first | exact (congrArg (Value.int .i64) E.out).symm | exact E.out.symm⟩
        case measure => simp [intOf]; omega
      · have E := Lib.hid (HP.out h9)
        subst h2
        clear h9 HP HQ
        go_wp2
        go_round
        case rel => exact ⟨i + 1, by go_num, by omega, by first | exact (congrArg (Value.int .i64) E.out).symm | exact E.out.symm⟩
        case measure => simp [intOf]; omega
      · have E := Lib.hid (HQ.out h9)
        subst h2
        clear h9 HP HQ
        go_wp2
        go_round
        case rel => exact ⟨i + 1, by go_num, by omega, by first | exact (congrArg (Value.int .i64) E.out).symm | exact E.out.symm⟩
        case measure => simp [intOf]; omega
      · have E := Lib.hid (HQ.out h9)
        have h2' : ¬ ((κ : Int) = 0) := by omega
        clear h9 HP HQ
        go_wp2
        go_round
        case rel => exact ⟨i + 1, by go_num, by omega, by first | exact (congrArg (Value.int .i64) E.out).symm | exact E.out.symm⟩
        case measure => simp [intOf]; omega
    · obtain rfl : i = N := by omega
      go_wp2
      go_ret
      exact ⟨rfl, rfl⟩
set_option maxRecDepth 100000 in
set_option maxHeartbeats 1000000 in
theorem errors_any (ao : Option Addr) (n c N ε : Nat) (E : Nat → Int) (S : Nat → ByteArray) (w : World) (hn : n ≤ 4503599627370496) (hN : N ≤ n) (hε : ε < 32) (hA : ToldAt w ao n E S) :
    Calls Try.prog 9 #[.slice ao n c, .int .i64 N, .int .i64 ε] w fun e w' => e = .returned (.int .i64 (cnt (fun i => decide (errI (E i) = (ε : Int))) N)) ∧ w = w' := by
  have HA := Lib.hid hA
  clear hA
  go_enter Try.func9, Try.ntmps9
  go_wp2
  go_loop [7, 8] (fun s x => ∃ i : Nat, x = .int .i64 i ∧ i ≤ N ∧ s = .int .i64 (cnt (fun i => decide (errI (E i) = (ε : Int))) i)) (fun _ x => N - (intOf x).toNat)
  case atStart => exact ⟨0, rfl, by omega, rfl⟩
  case round =>
    obtain ⟨i, rfl, hi, rfl⟩ := hrel
    by_cases hlt : i < N
    · have hli : (i : Int) < N := by omega
      have hin : (i : Int) < n := by omega
      obtain ⟨ab, aoff, rfl, hab, hac⟩ := HA.out (by omega)
      obtain ⟨v1, a0, _⟩ := hac i (by omega)
      have hb := cnt_bd (fun i => decide (errI (E i) = (ε : Int))) i
      obtain ⟨hb1, hb2⟩ := hb
      have e3 : cnt (fun i => decide (errI (E i) = (ε : Int))) (i + 1) = cnt (fun i => decide (errI (E i) = (ε : Int))) i + (if decide (errI (E i) = (ε : Int)) = true then 1 else 0) := rfl
      have hk : ∀ x : Int, (x = ε ∧ ε < 31 ∧ errI x = ε) ∨ (x = ε ∧ ε = 31 ∧ ¬ x < 0 ∧ 30 < x ∧ errI x = ε) ∨ (¬ x = ε ∧ ε = 31 ∧ x < 0 ∧ errI x = ε) ∨ (¬ x = ε ∧ ε = 31 ∧ ¬ x < 0 ∧ 30 < x ∧ errI x = ε) ∨ (¬ x = ε ∧ ε = 31 ∧ ¬ x < 0 ∧ ¬ 30 < x ∧ ¬ errI x = ε) ∨ (¬ x = ε ∧ ¬ ε = 31 ∧ ¬ errI x = ε) := fun x => by
        unfold errI
        split <;> omega
      have hkk := hk (E i)
      have hp : errI (E i) = (ε : Int) → cnt (fun i => decide (errI (E i) = (ε : Int))) (i + 1) = cnt (fun i => decide (errI (E i) = (ε : Int))) i + 1 := fun h => by rw [e3, h]; simp
      have hq : ¬ errI (E i) = (ε : Int) → cnt (fun i => decide (errI (E i) = (ε : Int))) (i + 1) = cnt (fun i => decide (errI (E i) = (ε : Int))) i := fun h => by rw [e3]; simp [h]
      have HP := Lib.hid hp
      have HQ := Lib.hid hq
      clear hp hq e3 hk hac
      generalize cnt (fun i => decide (errI (E i) = (ε : Int))) i = s0 at *
      generalize E i = k at *
      rcases hkk with ⟨h1, h2, h9⟩ | ⟨h1, h2, h3, h4, h9⟩ | ⟨h1, h2, h3, h9⟩ | ⟨h1, h2, h3, h4, h9⟩ | ⟨h1, h2, h3, h4, h9⟩ | ⟨h1, h2, h9⟩
      · have E := Lib.hid (HP.out h9)
        subst h1
        have h2' : ((ε : Int) < 31) := by omega
        clear h9 HP HQ
        go_wp2
        go_round
        case rel => exact ⟨i + 1, by go_num, by omega, by first | exact (congrArg (Value.int .i64) E.out).symm | exact E.out.symm⟩
        case measure => simp [intOf]; omega
      · have E := Lib.hid (HP.out h9)
        subst h1 h2
        clear h9 HP HQ
        go_wp2
        go_round
        case rel => exact ⟨i + 1, by go_num, by omega, by first | exact (congrArg (Value.int .i64) E.out).symm | exact E.out.symm⟩
        case measure => simp [intOf]; omega
      · have E := Lib.hid (HP.out h9)
        subst h2
        clear h9 HP HQ
        go_wp2
        go_round
        case rel => exact ⟨i + 1, by go_num, by omega, by first | exact (congrArg (Value.int .i64) E.out).symm | exact E.out.symm⟩
        case measure => simp [intOf]; omega
      · have E := Lib.hid (HP.out h9)
        subst h2
        clear h9 HP HQ
        go_wp2
        go_round
        case rel => exact ⟨i + 1, by go_num, by omega, by first | exact (congrArg (Value.int .i64) E.out).symm | exact E.out.symm⟩
        case measure => simp [intOf]; omega
      · have E := Lib.hid (HQ.out h9)
        subst h2
        clear h9 HP HQ
        go_wp2
        go_round
        case rel => exact ⟨i + 1, by go_num, by omega, by first | exact (congrArg (Value.int .i64) E.out).symm | exact E.out.symm⟩
        case measure => simp [intOf]; omega
      · have E := Lib.hid (HQ.out h9)
        have h2' : ¬ ((ε : Int) = 31) := by omega
        clear h9 HP HQ
        go_wp2
        go_round
        case rel => exact ⟨i + 1, by go_num, by omega, by first | exact (congrArg (Value.int .i64) E.out).symm | exact E.out.symm⟩
        case measure => simp [intOf]; omega
    · obtain rfl : i = N := by omega
      go_wp2
      go_ret
      exact ⟨rfl, rfl⟩
set_option maxRecDepth 100000 in
set_option maxHeartbeats 1000000 in
theorem reads_any (ao bo : Option Addr) (n c m d N : Nat) (K E : Nat → Int) (S : Nat → ByteArray) (w : World) (hn : n ≤ 4503599627370496) (hN : N ≤ n) (hM : N ≤ m) (hm : m ≤ 9223372036854775807) (hA : ActsAt w ao n K) (hT : ToldAt w bo m E S) :
    Calls Try.prog 10 #[.slice ao n c, .slice bo m d, .int .i64 N] w fun e w' => e = .returned (.tuple #[.int .i64 (bsum K E S N), .int .i64 (bx_ qx K E N), .int .i64 (bx_ qy K E N)]) ∧ w = w' := by
  have HA := Lib.hid hA
  have HT := Lib.hid hT
  clear hA hT
  go_enter Try.func10, Try.ntmps10
  go_wp2
  go_loop [9, 10, 11, 12] (fun b p q x => ∃ i : Nat, x = .int .i64 i ∧ i ≤ N ∧ b = .int .i64 (bsum K E S i) ∧ p = .int .i64 (bx_ qx K E i) ∧ q = .int .i64 (bx_ qy K E i)) (fun _ _ _ x => N - (intOf x).toNat)
  case atStart => exact ⟨0, rfl, by omega, rfl, rfl, rfl⟩
  case round =>
    obtain ⟨i, rfl, hi, rfl, rfl, rfl⟩ := hrel
    by_cases hlt : i < N
    · have hli : (i : Int) < N := by omega
      have hin : (i : Int) < n := by omega
      have him : (i : Int) < m := by omega
      obtain ⟨ab, aoff, rfl, hab, hac⟩ := HA.out (by omega)
      obtain ⟨v1, v2, v3, v4, v5, v6, v7, v8, v9, v10, a0, _⟩ := hac i (by omega)
      obtain ⟨tb, toff, rfl, htb, htc⟩ := HT.out (by omega)
      obtain ⟨u2, t0, t1, _⟩ := htc i (by omega)
      obtain ⟨x1, x2⟩ := bx_bd qx qx_bd K E i
      obtain ⟨y1, y2⟩ := bx_bd qy qy_bd K E i
      have e1 : bsum K E S (i + 1) = if isRd K E i then wrap64 (bsum K E S i + (S i).size) else bsum K E S i := rfl
      have e2 : bx_ qx K E (i + 1) = bx_ qx K E i + (if isRd K E i then qx (i % 4) else 0) := rfl
      have e3 : bx_ qy K E (i + 1) = bx_ qy K E i + (if isRd K E i then qy (i % 4) else 0) := rfl
      have hR : isRd K E i = (decide (K i = 1) && decide (E i = 0)) := rfl
      clear hac htc
      by_cases hk : K i = 1
      · by_cases he : E i = 0
        · rw [hk, he] at hR
          simp only [decide_true, Bool.and_self] at hR
          rw [if_pos hR] at e1 e2 e3
          rw [hk] at a0
          rw [he] at t0
          have hq4 : i % 4 = 0 ∨ i % 4 = 1 ∨ i % 4 = 2 ∨ i % 4 = 3 := by omega
          rcases hq4 with hq | hq | hq | hq
          · rw [hq] at e2 e3
            rw [show qx 0 = 1 from rfl] at e2
            rw [show qy 0 = 0 from rfl] at e3
            have E1 := Lib.hid e1
            have E2 := Lib.hid e2
            have E3 := Lib.hid e3
            have hqi : (i : Int) % 4 = 0 := by omega
            clear e1 e2 e3 hR hk he hq
            generalize bx_ qx K E i = xx at *
            generalize bx_ qy K E i = yy at *
            go_wp2
            go_round
            case rel => exact ⟨i + 1, by go_num, by omega, by rw [E1.out], by rw [E2.out], by rw [E3.out, Int.add_zero]⟩
            case measure => simp [intOf]; omega
          · rw [hq] at e2 e3
            rw [show qx 1 = 0 from rfl] at e2
            rw [show qy 1 = 1 from rfl] at e3
            have E1 := Lib.hid e1
            have E2 := Lib.hid e2
            have E3 := Lib.hid e3
            have hqi : (i : Int) % 4 = 1 := by omega
            clear e1 e2 e3 hR hk he hq
            generalize bx_ qx K E i = xx at *
            generalize bx_ qy K E i = yy at *
            go_wp2
            go_round
            case rel => exact ⟨i + 1, by go_num, by omega, by rw [E1.out], by rw [E2.out, Int.add_zero], by rw [E3.out]⟩
            case measure => simp [intOf]; omega
          · rw [hq] at e2 e3
            rw [show qx 2 = -1 from rfl] at e2
            rw [show qy 2 = 0 from rfl] at e3
            have E1 := Lib.hid e1
            have E2 := Lib.hid e2
            have E3 := Lib.hid e3
            have hqi : (i : Int) % 4 = 2 := by omega
            clear e1 e2 e3 hR hk he hq
            generalize bx_ qx K E i = xx at *
            generalize bx_ qy K E i = yy at *
            go_wp2
            go_round
            case rel => exact ⟨i + 1, by go_num, by omega, by rw [E1.out], by rw [E2.out]; rfl, by rw [E3.out, Int.add_zero]⟩
            case measure => simp [intOf]; omega
          · rw [hq] at e2 e3
            rw [show qx 3 = 0 from rfl] at e2
            rw [show qy 3 = -1 from rfl] at e3
            have E1 := Lib.hid e1
            have E2 := Lib.hid e2
            have E3 := Lib.hid e3
            have hqi : (i : Int) % 4 = 3 := by omega
            clear e1 e2 e3 hR hk he hq
            generalize bx_ qx K E i = xx at *
            generalize bx_ qy K E i = yy at *
            go_wp2
            go_round
            case rel => exact ⟨i + 1, by go_num, by omega, by rw [E1.out], by rw [E2.out, Int.add_zero], by rw [E3.out]; rfl⟩
            case measure => simp [intOf]; omega
        · have hR' : isRd K E i = false := by rw [hR]; simp [he]
          rw [hR'] at e1 e2 e3
          simp only [Bool.false_eq_true, if_false, Int.add_zero] at e1 e2 e3
          have E1 := Lib.hid e1
          have E2 := Lib.hid e2
          have E3 := Lib.hid e3
          rw [hk] at a0
          clear e1 e2 e3 hR hR' hk
          go_wp2
          go_round
          case rel => exact ⟨i + 1, by go_num, by omega, by rw [E1.out], by rw [E2.out], by rw [E3.out]⟩
          case measure => simp [intOf]; omega
      · have hR' : isRd K E i = false := by rw [hR]; simp [hk]
        rw [hR'] at e1 e2 e3
        simp only [Bool.false_eq_true, if_false, Int.add_zero] at e1 e2 e3
        have E1 := Lib.hid e1
        have E2 := Lib.hid e2
        have E3 := Lib.hid e3
        clear e1 e2 e3 hR hR'
        go_wp2
        go_round
        case rel => exact ⟨i + 1, by go_num, by omega, by rw [E1.out], by rw [E2.out], by rw [E3.out]⟩
        case measure => simp [intOf]; omega
    · obtain rfl : i = N := by omega
      go_wp2
      go_ret3
      exact ⟨rfl, rfl⟩
end Go.Proofs.Ytnbmpackjgffaaa
