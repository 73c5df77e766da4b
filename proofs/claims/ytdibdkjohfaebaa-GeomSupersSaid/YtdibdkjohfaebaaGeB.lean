/- Contracts of package geom (cellaret): Check, Span; the laws GeomPlaces, GeomWhat, GeomSpans. -/
import Derived.Test.YtdibdkjohfaebaaGeA
namespace Go.Proofs.Ytdibdkjohfaebaa
open Go.RowKit Go.Deep
set_option linter.unusedVariables false

def GeomOk (B S M : Int) : Prop := 4 ≤ B ∧ B ≤ 64 ∧ B % 4 = 0 ∧ 1 ≤ S ∧ S ≤ 8 ∧ 1 ≤ M ∧ M ≤ 1099511627776
theorem check_ok (B S M : Int) (w : World) (h : GeomOk B S M) :
    Calls Try.prog 10 #[.agg #[.int .i64 B, .int .i64 S, .int .i64 M]] w fun e w' => e = .returned (.int .i64 0) ∧ Below w.heap.size w w' := by
  obtain ⟨h1, h2, h3, h4, h5, h6, h7⟩ := h
  have b3 : (B % 4 != 0) = false := by rw [bne_eq_false_iff_eq]; exact h3
  clear h3
  go_enter Try.func10, Try.ntmps10
  go_wp2
  go_ret
  exact ⟨rfl, by repeat (first | exact Below.refl _ _ | refine Below.drew ?_ | refine Below.alloc ?_ (by simp) _)⟩
theorem check_no (B S M : Int) (w : World) (h : ¬ GeomOk B S M) :
    Calls Try.prog 10 #[.agg #[.int .i64 B, .int .i64 S, .int .i64 M]] w fun e w' => e = .returned (.int .i64 2) ∧ Below w.heap.size w w' := by
  have hor : B < 4 ∨ (4 ≤ B ∧ 64 < B) ∨ (4 ≤ B ∧ B ≤ 64 ∧ (B % 4 != 0) = true) ∨ (4 ≤ B ∧ B ≤ 64 ∧ (B % 4 != 0) = false ∧ S < 1) ∨ (4 ≤ B ∧ B ≤ 64 ∧ (B % 4 != 0) = false ∧ 1 ≤ S ∧ 8 < S) ∨
      (4 ≤ B ∧ B ≤ 64 ∧ (B % 4 != 0) = false ∧ 1 ≤ S ∧ S ≤ 8 ∧ M < 1) ∨ (4 ≤ B ∧ B ≤ 64 ∧ (B % 4 != 0) = false ∧ 1 ≤ S ∧ S ≤ 8 ∧ 1 ≤ M ∧ 1099511627776 < M) := by
    unfold GeomOk at h
    rw [bne_iff_ne, bne_eq_false_iff_eq]
    omega
  clear h
  rcases hor with h | ⟨h1, h⟩ | ⟨h1, h2, h⟩ | ⟨h1, h2, h3, h⟩ | ⟨h1, h2, h3, h4, h⟩ | ⟨h1, h2, h3, h4, h5, h⟩ | ⟨h1, h2, h3, h4, h5, h6, h⟩
  all_goals
    go_enter Try.func10, Try.ntmps10
    go_wp2
    go_ret
    exact ⟨rfl, by repeat (first | exact Below.refl _ _ | refine Below.drew ?_ | refine Below.alloc ?_ (by simp) _)⟩

theorem awake09 (w : World) : Calls Try.prog 12 #[] w fun e w' => e = .returned (.bool true) ∧ Below w.heap.size w w' := by
  go_enter Try.func12, Try.ntmps12
  go_wp2_with fail
  refine (leafAt_ok 0 _ (by omega)).mono ?_
  rintro e w' ⟨rfl, rfl⟩
  go_wp2_with fail
  refine (what_ok 81 _ (by omega)).mono ?_
  rintro e w' ⟨rfl, rfl⟩
  rw [show whatK 81 = 2 from by decide, show whatI 81 = 0 from by decide]
  go_wp2_with fail
  refine (check_ok 8 2 100 _ (by unfold GeomOk; omega)).mono ?_
  rintro e w1 ⟨rfl, hb1⟩
  go_wp2
  go_ret
  exact ⟨rfl, hb1⟩

set_option maxRecDepth 100000 in
set_option maxHeartbeats 400000 in
theorem geomWhat_walk (b : Int) (w : World) (hb : (Lit.int .i64 b).wf = true) :
    Calls Try.prog 5 #[.int .i64 b] w fun e w' => e = .returned (.bool true) ∧ Below w.heap.size w w' := by
  clear hb
  have hor : (b < 0 ∨ (0 ≤ b ∧ 288 ≤ b)) ∨ (0 ≤ b ∧ b < 1) ∨ (1 ≤ b ∧ b < 81) ∨ (81 ≤ b ∧ b < 161) ∨ (161 ≤ b ∧ b < 224) ∨ (224 ≤ b ∧ b < 288) := by omega
  rcases hor with h | ⟨h, h'⟩ | ⟨h, h'⟩ | ⟨h, h'⟩ | ⟨h, h'⟩ | ⟨h, h'⟩
  · rcases h with h | ⟨h, h'⟩
    all_goals
      go_enter Try.func5, Try.ntmps5
      go_wp2_with fail
      refine (what_no b _ (by omega)).mono ?_
      rintro e w' ⟨rfl, rfl⟩
      go_wp2_with fail
      refine (awake09 _).mono ?_
      rintro e w3 ⟨rfl, hb3⟩
      go_wp2
      go_ret
      exact ⟨rfl, hb3⟩
  · have hw := what_ok b w (by omega)
    rw [show whatK b = 0 from if_pos h', show whatI b = 0 from if_pos h'] at hw
    have HW := Lib.hid hw
    clear hw
    obtain rfl : b = 0 := by omega
    go_enter Try.func5, Try.ntmps5
    go_wp2_with fail
    refine HW.out.mono ?_
    rintro e w' ⟨rfl, rfl⟩
    go_wp2_with fail
    refine (awake09 _).mono ?_
    rintro e w3 ⟨rfl, hb3⟩
    go_wp2
    go_ret
    exact ⟨rfl, hb3⟩
  · have hw := what_ok b w (by omega)
    rw [show whatK b = 1 from by unfold whatK; rw [if_neg (by omega), if_pos (by omega)], show whatI b = b - 1 from by unfold whatI; rw [if_neg (by omega), if_pos (by omega)]] at hw
    have HW := Lib.hid hw
    clear hw
    have HA := Lib.hid (fun w => areaAt_ok 0 (b - 1) w (by omega))
    rw [show (1 + 0 * 80 + (b - 1)) = b from by omega] at HA
    go_enter Try.func5, Try.ntmps5
    go_wp2_with fail
    refine HW.out.mono ?_
    rintro e w' ⟨rfl, rfl⟩
    go_wp2_with fail
    refine (HA.out _).mono ?_
    rintro e w' ⟨rfl, rfl⟩
    go_wp2_with fail
    refine (awake09 _).mono ?_
    rintro e w3 ⟨rfl, hb3⟩
    go_wp2
    go_ret
    exact ⟨rfl, hb3⟩
  · have hw := what_ok b w (by omega)
    rw [show whatK b = 2 from by unfold whatK; rw [if_neg (by omega), if_neg (by omega), if_pos (by omega)], show whatI b = b - 1 - 80 from by unfold whatI; rw [if_neg (by omega), if_neg (by omega), if_pos (by omega)]] at hw
    have HW := Lib.hid hw
    clear hw
    have HA := Lib.hid (fun w => areaAt_ok 1 (b - 1 - 80) w (by omega))
    rw [show (1 + 1 * 80 + (b - 1 - 80)) = b from by omega] at HA
    go_enter Try.func5, Try.ntmps5
    go_wp2_with fail
    refine HW.out.mono ?_
    rintro e w' ⟨rfl, rfl⟩
    go_wp2_with fail
    refine (HA.out _).mono ?_
    rintro e w' ⟨rfl, rfl⟩
    go_wp2_with fail
    refine (awake09 _).mono ?_
    rintro e w3 ⟨rfl, hb3⟩
    go_wp2
    go_ret
    exact ⟨rfl, hb3⟩
  · have hw := what_ok b w (by omega)
    rw [show whatK b = 3 from by unfold whatK; rw [if_neg (by omega), if_neg (by omega), if_neg (by omega), if_pos (by omega)], show whatI b = b - 161 from by unfold whatI; rw [if_neg (by omega), if_neg (by omega), if_neg (by omega), if_pos (by omega)]] at hw
    have HW := Lib.hid hw
    clear hw
    have HA := Lib.hid (fun w => nodeAt_ok (b - 161) w (by omega))
    rw [show (161 + (b - 161)) = b from by omega] at HA
    go_enter Try.func5, Try.ntmps5
    go_wp2_with fail
    refine HW.out.mono ?_
    rintro e w' ⟨rfl, rfl⟩
    go_wp2_with fail
    refine (HA.out _).mono ?_
    rintro e w' ⟨rfl, rfl⟩
    go_wp2_with fail
    refine (awake09 _).mono ?_
    rintro e w3 ⟨rfl, hb3⟩
    go_wp2
    go_ret
    exact ⟨rfl, hb3⟩
  · have hw := what_ok b w (by omega)
    rw [show whatK b = 4 from by unfold whatK; rw [if_neg (by omega), if_neg (by omega), if_neg (by omega), if_neg (by omega)], show whatI b = b - 224 from by unfold whatI; rw [if_neg (by omega), if_neg (by omega), if_neg (by omega), if_neg (by omega)]] at hw
    have HW := Lib.hid hw
    clear hw
    have HA := Lib.hid (fun w => leafAt_ok (b - 224) w (by omega))
    rw [show (224 + (b - 224)) = b from by omega] at HA
    go_enter Try.func5, Try.ntmps5
    go_wp2_with fail
    refine HW.out.mono ?_
    rintro e w' ⟨rfl, rfl⟩
    go_wp2_with fail
    refine (HA.out _).mono ?_
    rintro e w' ⟨rfl, rfl⟩
    go_wp2_with fail
    refine (awake09 _).mono ?_
    rintro e w3 ⟨rfl, hb3⟩
    go_wp2
    go_ret
    exact ⟨rfl, hb3⟩

set_option maxRecDepth 100000 in
set_option maxHeartbeats 8000000 in
theorem geomPlaces_walk (n i : Int) (w : World) (hn : (Lit.int .i64 n).wf = true) (hi : (Lit.int .i64 i).wf = true) :
    Calls Try.prog 4 #[.int .i64 n, .int .i64 i] w fun e w' => e = .returned (.bool true) ∧ Below w.heap.size w w' := by
  clear hn hi
  have hor : n < 0 ∨ (0 ≤ n ∧ n < 2) ∨ (2 ≤ n ∧ n < 8) ∨ (8 ≤ n ∧ n < 63) ∨ (63 ≤ n ∧ n < 64) ∨ 64 ≤ n := by omega
  have hor2 : i < 0 ∨ (0 ≤ i ∧ i < 4) ∨ (4 ≤ i ∧ i < 80) ∨ 80 ≤ i := by omega
  rcases hor with h | ⟨h, h'⟩ | ⟨h, h'⟩ | ⟨h, h'⟩ | ⟨h, h'⟩ | h <;> rcases hor2 with g | ⟨g, g'⟩ | ⟨g, g'⟩ | g
  all_goals
    go_enter Try.func4, Try.ntmps4
    go_wp2_with (first | (go_at_call 14; first | (refine (areaAt_ok n i _ (by omega)).mono ?_; rintro e w' ⟨rfl, rfl⟩) | (refine (areaAt_no n i _ (by omega)).mono ?_; rintro e w' ⟨rfl, rfl⟩)) | (go_at_call 15; first | (refine (nodeAt_ok n _ (by omega)).mono ?_; rintro e w' ⟨rfl, rfl⟩) | (refine (nodeAt_no n _ (by omega)).mono ?_; rintro e w' ⟨rfl, rfl⟩)) | (go_at_call 16; first | (refine (leafAt_ok n _ (by omega)).mono ?_; rintro e w' ⟨rfl, rfl⟩) | (refine (leafAt_no n _ (by omega)).mono ?_; rintro e w' ⟨rfl, rfl⟩)) | (go_at_call 17; first | (refine (place_ok n _ (by omega)).mono ?_; rintro e w' ⟨rfl, rfl⟩) | (refine (place_no n _ (by omega)).mono ?_; rintro e w' ⟨rfl, rfl⟩)) | (go_at_call 18; first | (refine (slotLeaf_ok n i _ (by omega)).mono ?_; rintro e w' ⟨rfl, rfl⟩) | (refine (slotLeaf_no n i _ (by omega)).mono ?_; rintro e w' ⟨rfl, rfl⟩)) | (go_at_call 12; refine (awake09 _).mono ?_; rintro e w3 ⟨rfl, hb3⟩))
    go_ret
    exact ⟨rfl, hb3⟩
end Go.Proofs.Ytdibdkjohfaebaa
