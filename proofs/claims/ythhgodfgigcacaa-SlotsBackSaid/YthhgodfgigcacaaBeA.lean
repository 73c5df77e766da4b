/- Contracts of package be (cellaret): walks. -/
import Derived.Test.YthhgodfgigcacaaProg
import Derived.Test.YthhgodfgigcacaaLib
import Derived.WalkLawsBesides
import Derived.Handy
import Derived.Lib.Hide
namespace Go.Proofs.Ythhgodfgigcacaa
open Go.RowKit Go.Deep

theorem Try.info_u8 : (Try.prog.info? 5).map (fun i => (i.zero, i.size, i.bytes)) = some (some (.int .u8 0), 1, 1) := by kernel_rfl

set_option maxHeartbeats 400000 in
theorem widthMayBe_any (n : Int) (w : World) :
    Calls Try.prog 49 #[.int .i64 n] w fun e w' => e = .returned (.bool (decide (1 ≤ n) && decide (n ≤ 8))) ∧ w = w' := by
  by_cases h1 : 1 ≤ n <;> by_cases h2 : n ≤ 8
  all_goals
    go_enter Try.func49, Try.ntmps49
    go_wp2
    go_ret
    exact ⟨by simp [h1, h2], rfl⟩

theorem widthMayBe_yes (n : Int) (w : World) (h1 : 1 ≤ n) (h2 : n ≤ 8) :
    Calls Try.prog 49 #[.int .i64 n] w fun e w' => e = .returned (.bool true) ∧ w = w' := by
  have := widthMayBe_any n w
  simpa [h1, h2] using this

set_option maxHeartbeats 400000 in
theorem put_no (n W : Int) (w : World) (h : ¬ (1 ≤ W ∧ W ≤ 8)) :
    Calls Try.prog 53 #[.int .i64 n, .int .i64 W] w fun e w' => e = .returned (.tuple #[.string ⟨[].toArray⟩, .int .i64 2]) ∧ w = w' := by
  by_cases h1 : 1 ≤ W
  · have h2 : ¬ W ≤ 8 := by omega
    clear h
    go_enter Try.func53, Try.ntmps53
    go_wp2
    go_ret2
    exact ⟨rfl, rfl⟩
  · clear h
    go_enter Try.func53, Try.ntmps53
    go_wp2
    go_ret2
    exact ⟨rfl, rfl⟩

set_option maxHeartbeats 400000 in
theorem put_neg (n W : Int) (w : World) (h : 1 ≤ W) (h' : W ≤ 8) (hn : n < 0) :
    Calls Try.prog 53 #[.int .i64 n, .int .i64 W] w fun e w' => e = .returned (.tuple #[.string ⟨[].toArray⟩, .int .i64 3]) ∧ w = w' := by
    go_enter Try.func53, Try.ntmps53
    go_wp2
    go_ret2
    exact ⟨rfl, rfl⟩

set_option maxHeartbeats 400000 in
theorem put_big (n : Int) (W : Nat) (w : World) (h : 1 ≤ W) (h' : W < 8) (hn : 0 ≤ n) (hb : (n / 2 ^ (8 * W) != 0) = true) :
    Calls Try.prog 53 #[.int .i64 n, .int .i64 W] w fun e w' => e = .returned (.tuple #[.string ⟨[].toArray⟩, .int .i64 3]) ∧ w = w' := by
    go_enter Try.func53, Try.ntmps53
    go_wp2_with (go_at_call 49; refine (widthMayBe_yes _ _ (by omega) (by omega)).mono ?_; rintro e w' ⟨rfl, rfl⟩)
    go_ret2
    exact ⟨rfl, rfl⟩

set_option maxHeartbeats 400000 in
theorem put_ok (n : Int) (W : Nat) (w : World) (h : 1 ≤ W) (h' : W ≤ 8) (hn : 0 ≤ n) (hb : Hid (W < 8 → (n / 2 ^ (8 * W) != 0) = false)) :
    Calls Try.prog 53 #[.int .i64 n, .int .i64 W] w fun e w' => e = .returned (.tuple #[.string ⟨(beL n W).toArray⟩, .int .i64 0]) ∧ Below w.heap.size w w' := by
  have hmk := run_make_row' (P := Try.prog) 73 5 (.int .u8 0) 1 Try.underlying73 Try.info_u8 rfl .i64 .i64 W (by omega) (by omega)
  by_cases h8 : W < 8
  all_goals
    try have hbb := hb.out h8
    go_enter Try.func53, Try.ntmps53
    go_wp2_with (go_at_call 49; refine (widthMayBe_yes _ _ (by omega) (by omega)).mono ?_; rintro e w' ⟨rfl, rfl⟩)
    go_loopw [27] (fun i wr => ∃ k : Nat, k ≤ W ∧ i = .int .i64 k ∧ wr.rowIs w.heap.size 5 W (fun j => .int .u8 ((if W - k ≤ j then byteU n (W - 1 - j) else 0).toNat : Int)) ∧ Below w.heap.size w wr)
      (fun i _ => W - (intOf i).toNat)
    case atStart =>
      refine ⟨0, by omega, rfl, ?_, ?_⟩
      · refine (World.rowIs_made w _ W _).congr ?_
        intro j hj
        rw [if_neg (by omega)]; rfl
      · exact (Below.refl _ _).alloc (Nat.le_refl _) _
    case round =>
      obtain ⟨k, hk, rfl, hrow, hbel⟩ := hrel
      by_cases hlt : k < W
      · have hcell := hrow.cell (i := W - 1 - k) (by omega)
        have hfz := hrow.frozen (W - 1 - k)
        have hr2 := Lib.hid hrow
        clear hrow
        go_wp2
        go_roundw
        case rel =>
          refine ⟨k + 1, by omega, by go_num, ?_, ?_⟩
          · refine ((hr2.out).set (W - 1 - k) _).congr ?_
            intro j hj
            by_cases e : j = W - 1 - k
            · subst e
              rw [if_pos rfl, if_pos (by omega), byteU_val, show W - 1 - (W - 1 - k) = k from by omega]
            · rw [if_neg e]
              by_cases e2 : W - k ≤ j
              · rw [if_pos e2, if_pos (by omega)]
              · rw [if_neg e2, if_neg (by omega)]
          · exact hbel.setCell (by simp) _
        case measure => simp [intOf]; omega
      · have hcv := conv_row (P := Try.prog) (cap := W) (W := W) (dst := 9) Try.underlying73 Try.underlying5 Try.underlying9 hrow (Nat.le_refl _)
        clear hrow
        go_wp2
        go_ret2
        refine ⟨ret_two ?_ rfl, hbel⟩
        unfold beL
        apply List.map_congr_left
        intro j hj
        simp at hj
        first | rfl | rw [if_pos (by omega)]

theorem put_any (n W : Int) (w : World) :
    Calls Try.prog 53 #[.int .i64 n, .int .i64 W] w fun e w' => e = .returned (.tuple #[.string ⟨(putL n W).toArray⟩, .int .i64 (putE n W)]) ∧ Below w.heap.size w w' := by
  by_cases h : 1 ≤ W ∧ W ≤ 8
  · obtain ⟨V, rfl⟩ := Int.eq_ofNat_of_zero_le (show 0 ≤ W by omega)
    by_cases h' : n < 0 ∨ ((V : Int) < 8 ∧ n / 2 ^ (8 * (V : Int).toNat) ≠ 0)
    · obtain ⟨he, hl⟩ := put_of_range h h'
      rw [he, hl]
      by_cases hn : n < 0
      · exact (put_neg n V w h.1 h.2 hn).mono fun e w' ⟨a, b⟩ => ⟨a, b ▸ Below.refl _ _⟩
      · have h2 : (V : Int) < 8 ∧ n / 2 ^ (8 * (V : Int).toNat) ≠ 0 := h'.resolve_left hn
        exact (put_big n V w (by omega) (by omega) (by omega) (by rw [bne_iff_ne]; simpa using h2.2)).mono fun e w' ⟨a, b⟩ => ⟨a, b ▸ Below.refl _ _⟩
    · obtain ⟨he, hl⟩ := put_of_ok h h'
      rw [he, hl]
      have h3 : 0 ≤ n := by
        by_cases hn : 0 ≤ n
        · exact hn
        · exact absurd (Or.inl (by omega)) h'
      exact put_ok n V w (by omega) (by omega) h3 (Lib.hid fun hV => by
        rw [bne_eq_false_iff_eq]
        by_cases e : n / 2 ^ (8 * V) = 0
        · exact e
        · exact absurd (Or.inr ⟨by omega, by simpa using e⟩) h')
  · obtain ⟨he, hl⟩ := put_of_arg (n := n) h
    rw [he, hl]
    exact (put_no n W w h).mono fun e w' ⟨a, b⟩ => ⟨a, b ▸ Below.refl _ _⟩
end Go.Proofs.Ythhgodfgigcacaa
