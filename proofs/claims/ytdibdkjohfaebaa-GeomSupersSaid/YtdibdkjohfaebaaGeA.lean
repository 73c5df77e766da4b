/- Contracts of package geom (cellaret): places; the laws GeomPlaces, GeomWhat. -/
import Derived.Test.YtdibdkjohfaebaaProg
import Derived.Test.YtdibdkjohfaebaaLib
import Derived.WalkLawsBesides
import Derived.Handy
import Derived.Lib.Hide
import Derived.RegionTactic
import Derived.Deep.QuietTactic
import Derived.BigQuiet
import Derived.OpenShut
namespace Go.Proofs.Ytdibdkjohfaebaa
open Go.RowKit Go.Deep
set_option linter.unusedVariables false

theorem below_trans {w w1 w2 : World} (h1 : Below w.heap.size w w1) (h2 : Below w1.heap.size w1 w2) : Below w.heap.size w w2 := h1.trans (h2.mono h1.size)

theorem at_ok (f i n : Int) (w : World) (h : 0 ≤ i ∧ i < n) (hf : 0 ≤ f) (hf2 : f ≤ 1000) (hn : n ≤ 1000) :
    Calls Try.prog 29 #[.int .i64 f, .int .i64 i, .int .i64 n] w fun e w' => e = .returned (.tuple #[.int .i64 (f + i), .int .i64 0]) ∧ w = w' := by
  obtain ⟨h1, h2⟩ := h
  go_enter Try.func29, Try.ntmps29
  go_wp2
  go_ret2
  exact ⟨rfl, rfl⟩
theorem at_no (f i n : Int) (w : World) (h : ¬ (0 ≤ i ∧ i < n)) :
    Calls Try.prog 29 #[.int .i64 f, .int .i64 i, .int .i64 n] w fun e w' => e = .returned (.tuple #[.int .i64 0, .int .i64 3]) ∧ w = w' := by
  have hor : i < 0 ∨ (0 ≤ i ∧ n ≤ i) := by omega
  clear h
  rcases hor with h | ⟨h, h'⟩
  all_goals
    go_enter Try.func29, Try.ntmps29
    go_wp2
    go_ret2
    exact ⟨rfl, rfl⟩
theorem areaAt_ok (a i : Int) (w : World) (h : 0 ≤ a ∧ a < 2 ∧ 0 ≤ i ∧ i < 80) :
    Calls Try.prog 14 #[.int .i64 a, .int .i64 i] w fun e w' => e = .returned (.tuple #[.int .i64 (1 + a * 80 + i), .int .i64 0]) ∧ w = w' := by
  obtain ⟨h1, h2, h3, h4⟩ := h
  have hor : a = 0 ∨ a = 1 := by omega
  rcases hor with rfl | rfl
  all_goals
    go_enter Try.func14, Try.ntmps14
    go_wp2_with (go_at_call 29; refine (at_ok _ _ _ _ (by omega) (by omega) (by omega) (by omega)).mono ?_; rintro e w' ⟨rfl, rfl⟩)
    go_ret2
    exact ⟨by simp, rfl⟩
theorem areaAt_no (a i : Int) (w : World) (h : ¬ (0 ≤ a ∧ a < 2 ∧ 0 ≤ i ∧ i < 80)) :
    Calls Try.prog 14 #[.int .i64 a, .int .i64 i] w fun e w' => e = .returned (.tuple #[.int .i64 0, .int .i64 3]) ∧ w = w' := by
  by_cases h0 : a = 0
  · subst h0
    have H := Lib.hid (show ¬ (0 ≤ i ∧ i < 80) by omega)
    clear h
    go_enter Try.func14, Try.ntmps14
    go_wp2_with (go_at_call 29; refine (at_no _ _ _ _ H.out).mono ?_; rintro e w' ⟨rfl, rfl⟩)
    go_ret2
    exact ⟨rfl, rfl⟩
  by_cases h1 : a = 1
  · subst h1
    have H := Lib.hid (show ¬ (0 ≤ i ∧ i < 80) by omega)
    clear h
    go_enter Try.func14, Try.ntmps14
    go_wp2_with (go_at_call 29; refine (at_no _ _ _ _ H.out).mono ?_; rintro e w' ⟨rfl, rfl⟩)
    go_ret2
    exact ⟨rfl, rfl⟩
  · have b0 : (a != 0) = true := by rw [bne_iff_ne]; exact h0
    have b1 : (a != 1) = true := by rw [bne_iff_ne]; exact h1
    clear h h0 h1
    go_enter Try.func14, Try.ntmps14
    go_wp2
    go_ret2
    exact ⟨rfl, rfl⟩
theorem nodeAt_ok (i : Int) (w : World) (h : 0 ≤ i ∧ i < 63) :
    Calls Try.prog 15 #[.int .i64 i] w fun e w' => e = .returned (.tuple #[.int .i64 (161 + i), .int .i64 0]) ∧ w = w' := by
  go_enter Try.func15, Try.ntmps15
  go_wp2_with (go_at_call 29; refine (at_ok _ _ _ _ h (by omega) (by omega) (by omega)).mono ?_; rintro e w' ⟨rfl, rfl⟩)
  go_ret2
  exact ⟨rfl, rfl⟩
theorem nodeAt_no (i : Int) (w : World) (h : ¬ (0 ≤ i ∧ i < 63)) :
    Calls Try.prog 15 #[.int .i64 i] w fun e w' => e = .returned (.tuple #[.int .i64 0, .int .i64 3]) ∧ w = w' := by
  have H := Lib.hid h
  clear h
  go_enter Try.func15, Try.ntmps15
  go_wp2_with (go_at_call 29; refine (at_no _ _ _ _ H.out).mono ?_; rintro e w' ⟨rfl, rfl⟩)
  go_ret2
  exact ⟨rfl, rfl⟩
theorem leafAt_ok (i : Int) (w : World) (h : 0 ≤ i ∧ i < 64) :
    Calls Try.prog 16 #[.int .i64 i] w fun e w' => e = .returned (.tuple #[.int .i64 (224 + i), .int .i64 0]) ∧ w = w' := by
  go_enter Try.func16, Try.ntmps16
  go_wp2_with (go_at_call 29; refine (at_ok _ _ _ _ h (by omega) (by omega) (by omega)).mono ?_; rintro e w' ⟨rfl, rfl⟩)
  go_ret2
  exact ⟨rfl, rfl⟩
theorem leafAt_no (i : Int) (w : World) (h : ¬ (0 ≤ i ∧ i < 64)) :
    Calls Try.prog 16 #[.int .i64 i] w fun e w' => e = .returned (.tuple #[.int .i64 0, .int .i64 3]) ∧ w = w' := by
  have H := Lib.hid h
  clear h
  go_enter Try.func16, Try.ntmps16
  go_wp2_with (go_at_call 29; refine (at_no _ _ _ _ H.out).mono ?_; rintro e w' ⟨rfl, rfl⟩)
  go_ret2
  exact ⟨rfl, rfl⟩
theorem place_ok (b : Int) (w : World) (h : 0 ≤ b ∧ b < 64) :
    Calls Try.prog 17 #[.int .i64 b] w fun e w' => e = .returned (.tuple #[.int .i64 (b / 4), .int .i64 (b % 4), .int .i64 0]) ∧ w = w' := by
  obtain ⟨h1, h2⟩ := h
  go_enter Try.func17, Try.ntmps17
  go_wp2
  go_ret3
  exact ⟨rfl, rfl⟩
theorem place_no (b : Int) (w : World) (h : b < 0 ∨ (0 ≤ b ∧ 64 ≤ b)) :
    Calls Try.prog 17 #[.int .i64 b] w fun e w' => e = .returned (.tuple #[.int .i64 0, .int .i64 0, .int .i64 3]) ∧ w = w' := by
  rcases h with h | ⟨h, h'⟩
  all_goals
    go_enter Try.func17, Try.ntmps17
    go_wp2
    go_ret3
    exact ⟨rfl, rfl⟩
theorem slotLeaf_ok (s i : Int) (w : World) (h : 0 ≤ s ∧ s < 8 ∧ 0 ≤ i ∧ i < 4) :
    Calls Try.prog 18 #[.int .i64 s, .int .i64 i] w fun e w' => e = .returned (.tuple #[.int .i64 (4 * s + i), .int .i64 0]) ∧ w = w' := by
  obtain ⟨h1, h2, h3, h4⟩ := h
  go_enter Try.func18, Try.ntmps18
  go_wp2
  go_ret2
  exact ⟨rfl, rfl⟩
theorem slotLeaf_no (s i : Int) (w : World) (h : ¬ (0 ≤ s ∧ s < 8 ∧ 0 ≤ i ∧ i < 4)) :
    Calls Try.prog 18 #[.int .i64 s, .int .i64 i] w fun e w' => e = .returned (.tuple #[.int .i64 0, .int .i64 3]) ∧ w = w' := by
  have hor : s < 0 ∨ (0 ≤ s ∧ 8 ≤ s) ∨ (0 ≤ s ∧ s < 8 ∧ i < 0) ∨ (0 ≤ s ∧ s < 8 ∧ 0 ≤ i ∧ 4 ≤ i) := by omega
  clear h
  rcases hor with h | ⟨h1, h⟩ | ⟨h1, h2, h⟩ | ⟨h1, h2, h3, h⟩
  all_goals
    go_enter Try.func18, Try.ntmps18
    go_wp2
    go_ret2
    exact ⟨rfl, rfl⟩

def whatK (b : Int) : Int := if b < 1 then 0 else if b < 81 then 1 else if b < 161 then 2 else if b < 224 then 3 else 4
def whatI (b : Int) : Int := if b < 1 then 0 else if b < 81 then b - 1 else if b < 161 then b - 1 - 80 else if b < 224 then b - 161 else b - 224
theorem what_ok (b : Int) (w : World) (h : 0 ≤ b ∧ b < 288) :
    Calls Try.prog 19 #[.int .i64 b] w fun e w' => e = .returned (.tuple #[.int .i64 (whatK b), .int .i64 (whatI b), .int .i64 0]) ∧ w = w' := by
  obtain ⟨h0, h1⟩ := h
  have hor : b < 1 ∨ (1 ≤ b ∧ b < 81) ∨ (81 ≤ b ∧ b < 161) ∨ (161 ≤ b ∧ b < 224) ∨ 224 ≤ b := by omega
  rcases hor with h | ⟨h, h'⟩ | ⟨h, h'⟩ | ⟨h, h'⟩ | h
  · rw [show whatK b = 0 from if_pos h, show whatI b = 0 from if_pos h]
    go_enter Try.func19, Try.ntmps19
    go_wp2
    go_ret3
    exact ⟨rfl, rfl⟩
  · rw [show whatK b = 1 from by unfold whatK; rw [if_neg (by omega), if_pos (by omega)], show whatI b = b - 1 from by unfold whatI; rw [if_neg (by omega), if_pos (by omega)]]
    go_enter Try.func19, Try.ntmps19
    go_wp2
    go_ret3
    exact ⟨rfl, rfl⟩
  · rw [show whatK b = 2 from by unfold whatK; rw [if_neg (by omega), if_neg (by omega), if_pos (by omega)], show whatI b = b - 1 - 80 from by unfold whatI; rw [if_neg (by omega), if_neg (by omega), if_pos (by omega)]]
    go_enter Try.func19, Try.ntmps19
    go_wp2
    go_ret3
    exact ⟨rfl, rfl⟩
  · rw [show whatK b = 3 from by unfold whatK; rw [if_neg (by omega), if_neg (by omega), if_neg (by omega), if_pos (by omega)], show whatI b = b - 161 from by unfold whatI; rw [if_neg (by omega), if_neg (by omega), if_neg (by omega), if_pos (by omega)]]
    go_enter Try.func19, Try.ntmps19
    go_wp2
    go_ret3
    exact ⟨rfl, rfl⟩
  · rw [show whatK b = 4 from by unfold whatK; rw [if_neg (by omega), if_neg (by omega), if_neg (by omega), if_neg (by omega)], show whatI b = b - 224 from by unfold whatI; rw [if_neg (by omega), if_neg (by omega), if_neg (by omega), if_neg (by omega)]]
    go_enter Try.func19, Try.ntmps19
    go_wp2
    go_ret3
    exact ⟨rfl, rfl⟩
theorem what_no (b : Int) (w : World) (h : b < 0 ∨ (0 ≤ b ∧ 288 ≤ b)) :
    Calls Try.prog 19 #[.int .i64 b] w fun e w' => e = .returned (.tuple #[.int .i64 0, .int .i64 0, .int .i64 3]) ∧ w = w' := by
  rcases h with h | ⟨h, h'⟩
  all_goals
    go_enter Try.func19, Try.ntmps19
    go_wp2
    go_ret3
    exact ⟨rfl, rfl⟩
end Go.Proofs.Ytdibdkjohfaebaa
