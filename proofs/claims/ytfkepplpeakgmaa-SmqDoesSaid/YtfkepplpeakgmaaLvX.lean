/- The reference's queue: Move. -/
import Derived.Test.YtfkepplpeakgmaaLvW
namespace Go.Proofs.Ytfkepplpeakgmaa
open Go.RowKit Go.Deep
set_option linter.unusedVariables false
set_option linter.unusedSimpArgs false
theorem cut_up (l b : Int) (h0 : 0 ≤ l) (h3 : l < 3) (hb : 0 < b) : cutL ((l + 1) + cutB (b - 1)) = cutL (l + cutB b) := by
  unfold cutL cutB
  repeat' split
  all_goals omega
theorem cut_down (l b : Int) (h0 : 0 < l) (h3 : l ≤ 3) (hb : b < 0) : cutL ((l - 1) + cutB (b + 1)) = cutL (l + cutB b) := by
  unfold cutL cutB
  repeat' split
  all_goals omega
theorem cut_done (l b : Int) (h0 : 0 ≤ l) (h3 : l ≤ 3) (h1 : ¬ (0 < b ∧ l < 3)) (h2 : ¬ (b < 0 ∧ 0 < l)) : cutL (l + cutB b) = l := by
  unfold cutL cutB
  repeat' split
  all_goals omega
set_option maxRecDepth 100000 in
set_option maxHeartbeats 8000000 in
theorem rmove_any (B h i : Nat) (b : Int) (X : Nat → List Nat) (w : World) (hX : XqAt w B h X) (hBw : B ≤ w.heap.size) (hl : ∀ l, l < 4 → (X l).length ≤ 16) (hi : lvl X i ≠ -1) (hb1 : -9223372036854775808 ≤ b) (hb2 : b ≤ 9223372036854775807) : Calls Try.prog 34 #[.pointer (some ⟨h, 0, none⟩), .int .i64 (i : Int), .int .i64 b] w fun e w' => e = .returned (.tuple #[]) ∧ XqAt w' B h (movA X i b) ∧ Kq B [h] w w' := by
  have CW := Lib.hid (where_any B h i X w hX hl)
  have CP := Lib.hid (fun l hll => rput_any B h i l X w hX hBw hl hll)
  obtain ⟨l0, h4, e0, _⟩ : ∃ l : Nat, l < 4 ∧ lvl X i = (l : Int) ∧ i ∈ X l := by
    rcases lvl_cases X i with ⟨h, _⟩ | h
    · exact absurd h hi
    · exact h
  rw [e0] at CW
  obtain ⟨m, hm⟩ : ∃ m : Nat, cutL ((l0 : Int) + cutB b) = (m : Int) := ⟨(cutL ((l0 : Int) + cutB b)).toNat, by unfold cutL; split <;> (try split) <;> omega⟩
  have hm4 : m < 4 := by
    have : cutL ((l0 : Int) + cutB b) ≤ 3 := by unfold cutL; split <;> (try split) <;> omega
    omega
  have HA : Hid (movA X i b = put X i m) := Lib.hid (by unfold movA; rw [e0, hm, Int.toNat_natCast])
  rw [HA.out]
  have CPM := Lib.hid (CP.out m hm4)
  have HM := Lib.hid hm
  clear hX hl hi CP e0 HA hm
  go_enter Try.func34, Try.ntmps34
  go_wp2_with fail
  refine CW.out.mono ?_
  rintro e w' ⟨rfl, rfl⟩
  clear CW
  go_wp2_with fail
  go_loopw [2, 6] (fun s2 s6 wi => ∃ (l b : Int), s6 = .int .i64 l ∧ s2 = .int .i64 b ∧ 0 ≤ l ∧ l ≤ 3 ∧ -9223372036854775808 ≤ b ∧ b ≤ 9223372036854775807 ∧ Hid (cutL (l + cutB b) = (m : Int)) ∧ w = wi) (fun _ s6 _ => (3 - intOf s6).toNat)
  case atStart => exact ⟨(l0 : Int), b, rfl, rfl, by omega, by omega, hb1, hb2, HM, rfl⟩
  case round =>
    clear HM hb1 hb2
    obtain ⟨l, b, rfl, rfl, h0, h3, hb1, hb2, HI, rfl⟩ := hrel
    by_cases hb : 0 < b
    · by_cases hl : l < 3
      · have HI2 : Hid (cutL ((l + 1) + cutB (b - 1)) = (m : Int)) := Lib.hid ((cut_up l b h0 hl hb).trans HI.out)
        go_wp2_with fail
        go_roundw
        case rel => exact ⟨l + 1, b - 1, by go_num, by go_num, by omega, by omega, by omega, by omega, HI2, by first | rfl | trivial⟩
        case measure => simp [intOf]; omega
      · have hst : ¬ (0 < b ∧ l < 3) := by omega
        obtain hl3 : l = 3 := by omega
        subst hl3
        go_wp2_with fail
        go_loopw [2, 6] (fun s2 s6 wi => ∃ (l b : Int), s6 = .int .i64 l ∧ s2 = .int .i64 b ∧ 0 ≤ l ∧ l ≤ 3 ∧ -9223372036854775808 ≤ b ∧ b ≤ 9223372036854775807 ∧ ¬ (0 < b ∧ l < 3) ∧ Hid (cutL (l + cutB b) = (m : Int)) ∧ w = wi) (fun _ s6 _ => (intOf s6).toNat)
        case atStart => exact ⟨_, b, rfl, rfl, by omega, by omega, hb1, hb2, hst, HI, rfl⟩
        case round =>
          clear hst HI hb1 hb2
          obtain ⟨l, b, rfl, rfl, h0, h3, hb1, hb2, hst, HI, rfl⟩ := hrel
          by_cases hb : b < 0
          · by_cases hl : 0 < l
            · have HI2 : Hid (cutL ((l - 1) + cutB (b + 1)) = (m : Int)) := Lib.hid ((cut_down l b hl h3 hb).trans HI.out)
              clear HI
              go_wp2_with fail
              go_roundw
              case rel => exact ⟨l - 1, b + 1, by go_num, by go_num, by omega, by omega, by omega, by omega, by omega, HI2, by first | rfl | trivial⟩
              case measure => simp [intOf]; omega
            · have hm3 : (m : Int) = l := by rw [← HI.out]; exact cut_done l b (by omega) (by omega) hst (by omega)
              clear HI
              go_wp2_with fail
              refine (by rw [← hm3]; exact CPM.out : Calls _ _ _ _ _).mono ?_
              rintro e w' ⟨rfl, h1, h2⟩
              have HZ := Lib.hid (⟨h1, h2⟩ : _ ∧ _)
              clear h1 h2
              go_wp2_with fail
              go_end0
              exact ⟨rfl, HZ.out.1, HZ.out.2⟩
          · have hm3 : (m : Int) = l := by rw [← HI.out]; exact cut_done l b (by omega) (by omega) hst (by omega)
            clear HI
            go_wp2_with fail
            refine (by rw [← hm3]; exact CPM.out : Calls _ _ _ _ _).mono ?_
            rintro e w' ⟨rfl, h1, h2⟩
            have HZ := Lib.hid (⟨h1, h2⟩ : _ ∧ _)
            clear h1 h2
            go_wp2_with fail
            go_end0
            exact ⟨rfl, HZ.out.1, HZ.out.2⟩
    · have hst : ¬ (0 < b ∧ l < 3) := by omega
      go_wp2_with fail
      go_loopw [2, 6] (fun s2 s6 wi => ∃ (l b : Int), s6 = .int .i64 l ∧ s2 = .int .i64 b ∧ 0 ≤ l ∧ l ≤ 3 ∧ -9223372036854775808 ≤ b ∧ b ≤ 9223372036854775807 ∧ ¬ (0 < b ∧ l < 3) ∧ Hid (cutL (l + cutB b) = (m : Int)) ∧ w = wi) (fun _ s6 _ => (intOf s6).toNat)
      case atStart => exact ⟨_, b, rfl, rfl, by omega, by omega, hb1, hb2, hst, HI, rfl⟩
      case round =>
        clear hst HI hb1 hb2
        obtain ⟨l, b, rfl, rfl, h0, h3, hb1, hb2, hst, HI, rfl⟩ := hrel
        by_cases hb : b < 0
        · by_cases hl : 0 < l
          · have HI2 : Hid (cutL ((l - 1) + cutB (b + 1)) = (m : Int)) := Lib.hid ((cut_down l b hl h3 hb).trans HI.out)
            clear HI
            go_wp2_with fail
            go_roundw
            case rel => exact ⟨l - 1, b + 1, by go_num, by go_num, by omega, by omega, by omega, by omega, by omega, HI2, by first | rfl | trivial⟩
            case measure => simp [intOf]; omega
          · have hm3 : (m : Int) = l := by rw [← HI.out]; exact cut_done l b (by omega) (by omega) hst (by omega)
            clear HI
            go_wp2_with fail
            refine (by rw [← hm3]; exact CPM.out : Calls _ _ _ _ _).mono ?_
            rintro e w' ⟨rfl, h1, h2⟩
            have HZ := Lib.hid (⟨h1, h2⟩ : _ ∧ _)
            clear h1 h2
            go_wp2_with fail
            go_end0
            exact ⟨rfl, HZ.out.1, HZ.out.2⟩
        · have hm3 : (m : Int) = l := by rw [← HI.out]; exact cut_done l b (by omega) (by omega) hst (by omega)
          clear HI
          go_wp2_with fail
          refine (by rw [← hm3]; exact CPM.out : Calls _ _ _ _ _).mono ?_
          rintro e w' ⟨rfl, h1, h2⟩
          have HZ := Lib.hid (⟨h1, h2⟩ : _ ∧ _)
          clear h1 h2
          go_wp2_with fail
          go_end0
          exact ⟨rfl, HZ.out.1, HZ.out.2⟩
end Go.Proofs.Ytfkepplpeakgmaa
