/- Contracts of the reference of layer 1. -/
import Derived.Test.YtapmnacggpcffaaProg
import Derived.Test.YtapmnacggpcffaaLibB
import Derived.WalkLawsBesides
import Derived.Handy
import Derived.Lib.Hide
import Derived.Test.YtapmnacggpcffaaBeB
namespace Go.Proofs.Ytapmnacggpcffaa
open Go.RowKit Go.Deep



set_option maxRecDepth 100000 in
set_option maxHeartbeats 400000 in
theorem r01put_ok (n : Int) (W : Nat) (w : World) (h : 1 ≤ W) (h' : W ≤ 8) (hn : 0 ≤ n) (hN : n ≤ 9223372036854775807) :
    Calls Try.prog 28 #[.int .i64 n, .int .i64 W] w fun e w' => e = .returned (.tuple #[.string ⟨(putL' n W).toArray⟩, .int .i64 (putE' n W)]) ∧ Below w.heap.size w w' := by
  go_enter Try.func28, Try.ntmps28
  go_wp2
  go_loopw [0, 6, 7] (fun m out i wr => ∃ k : Nat, k ≤ W ∧ i = .int .i64 k ∧ m = .int .i64 (n / 2 ^ (8 * k)) ∧ out = .string ⟨(beL n k).toArray⟩ ∧ Below w.heap.size w wr)
    (fun _ _ i _ => W - (intOf i).toNat)
  case atStart => exact ⟨0, by omega, rfl, by simp, rfl, Below.refl _ _⟩
  case round =>
    obtain ⟨k, hk, rfl, rfl, rfl, hbel⟩ := hrel
    have hm0 : 0 ≤ n / 2 ^ (8 * k) := Int.ediv_nonneg hn (Int.pow_nonneg (by omega))
    by_cases hlt : k < W
    · have hmu : n / 2 ^ (8 * k) ≤ 9223372036854775807 := Int.le_trans (div_le_self n k hn) hN
      have hcv := conv_one (P := Try.prog) (dst := 9) wr (byteU n k) Try.underlying43 Try.underlying5 Try.underlying9
      rw [byteU_val] at hcv
      have hl := beL_length n k
      go_wp2
      go_roundw
      case rel =>
        refine ⟨k + 1, by omega, by go_num, by rw [← div_step], ?_, hbel.alloc hbel.size _⟩
        rw [show (⟨#[byteU n k]⟩ : ByteArray) = ⟨[byteU n k].toArray⟩ from rfl, bytes_add, beL_succ]
        rfl
      case measure => simp [intOf]; omega
    · have hkW : Hid (k = W) := Lib.hid (by omega)
      go_wp2
      all_goals go_ret2
      · obtain ⟨a, b⟩ := put'_more (n := n) (W := W) (by rw [← hkW.out]; omega)
        rw [a, b]
        exact ⟨rfl, hbel⟩
      · obtain ⟨a, b⟩ := put'_zero (n := n) (W := W) (by rw [← hkW.out]; omega)
        rw [a, b, ← hkW.out]
        exact ⟨rfl, hbel⟩

set_option maxRecDepth 100000 in
set_option maxHeartbeats 400000 in
theorem r01put_no (n W : Int) (w : World) (h : ¬ (1 ≤ W ∧ W ≤ 8)) :
    Calls Try.prog 28 #[.int .i64 n, .int .i64 W] w fun e w' => e = .returned (.tuple #[.string ⟨[].toArray⟩, .int .i64 2]) ∧ w = w' := by
  by_cases h1 : W < 1
  · go_enter Try.func28, Try.ntmps28
    go_wp2
    go_ret2
    exact ⟨rfl, rfl⟩
  · have h2 : 8 < W := by omega
    clear h
    go_enter Try.func28, Try.ntmps28
    go_wp2
    go_ret2
    exact ⟨rfl, rfl⟩

set_option maxRecDepth 100000 in
set_option maxHeartbeats 400000 in
theorem r01put_neg (n W : Int) (w : World) (h : 1 ≤ W) (h' : W ≤ 8) (hn : n < 0) :
    Calls Try.prog 28 #[.int .i64 n, .int .i64 W] w fun e w' => e = .returned (.tuple #[.string ⟨[].toArray⟩, .int .i64 3]) ∧ w = w' := by
  go_enter Try.func28, Try.ntmps28
  go_wp2
  go_ret2
  exact ⟨rfl, rfl⟩

theorem r01put_any (n W : Int) (w : World) (hN : n ≤ 9223372036854775807) :
    Calls Try.prog 28 #[.int .i64 n, .int .i64 W] w fun e w' => e = .returned (.tuple #[.string ⟨(putL n W).toArray⟩, .int .i64 (putE n W)]) ∧ Below w.heap.size w w' := by
  by_cases h : 1 ≤ W ∧ W ≤ 8
  · by_cases hn : n < 0
    · obtain ⟨he, hl⟩ := put_of_range (n := n) h (.inl hn)
      rw [he, hl]
      exact (r01put_neg n W w h.1 h.2 hn).mono fun e w' ⟨a, b⟩ => ⟨a, b ▸ Below.refl _ _⟩
    · obtain ⟨V, rfl⟩ := Int.eq_ofNat_of_zero_le (show 0 ≤ W by omega)
      obtain ⟨he, hl⟩ := put_same (n := n) (W := V) (by omega) (by omega) (by omega) hN
      rw [he, hl]
      exact r01put_ok n V w (by omega) (by omega) (by omega) hN
  · obtain ⟨he, hl⟩ := put_of_arg (n := n) h
    rw [he, hl]
    exact (r01put_no n W w h).mono fun e w' ⟨a, b⟩ => ⟨a, b ▸ Below.refl _ _⟩

set_option maxRecDepth 100000 in
set_option maxHeartbeats 400000 in
theorem r01get_ok (s : ByteArray) (w : World) (h0 : 0 < s.size) (h8 : s.size ≤ 8) (h : Hid (s.size = 8 → (s.data.toList[0]?.getD 0).toNat < 128)) :
    Calls Try.prog 25 #[.string s] w fun e w' => e = .returned (.tuple #[.int .i64 (beV s.data.toList), .int .i64 0]) ∧ w = w' := by
  have hroom : Hid (∀ k, k < s.size → beV (s.data.toList.take k) ≤ 36028797018963967) := Lib.hid fun k hk =>
    beV_room _ k (by rw [← Lib.size_eq]; exact hk) (by rw [← Lib.size_eq]; exact h8) (by rw [← Lib.size_eq]; exact h.out)
  by_cases h7 : s.size = 8
  all_goals
    try have h7' : ((s.size : Int) == 8) = true := by simp; omega
    try have h7' : ((s.size : Int) == 8) = false := by simp; omega
    have H := Lib.hid h7
    clear h7
    go_enter Try.func25, Try.ntmps25
    go_wp2
    try
      have := byte0_lt s h0 h.out H.out
      exact absurd (by assumption) this
    clear h
    go_loop [4, 5] (fun n i => ∃ k : Nat, k ≤ s.size ∧ i = .int .i64 k ∧ n = .int .i64 (beV (s.data.toList.take k))) (fun _ i => s.size - (intOf i).toNat)
    case atStart => exact ⟨0, by omega, rfl, rfl⟩
    case round =>
      obtain ⟨k, hk, rfl, rfl⟩ := hrel
      have hn0 := beV_nonneg (s.data.toList.take k)
      by_cases hlt : k < s.size
      · have hnl := hroom.out k hlt
        have hsn := Lib.hid (take_byte s k hlt)
        go_wp2
        go_round
        case rel => exact ⟨k + 1, by omega, by go_num, by rw [hsn.out, beV_snoc, add_byte _ _ hn0 hnl]⟩
        case measure => simp [intOf]; omega
      · have hall := Lib.hid (take_all s k (by omega))
        go_wp2
        go_ret2
        exact ⟨by rw [hall.out]; rfl, rfl⟩

set_option maxRecDepth 100000 in
set_option maxHeartbeats 400000 in
theorem r01get_short (s : ByteArray) (w : World) (h0 : s.size = 0) :
    Calls Try.prog 25 #[.string s] w fun e w' => e = .returned (.tuple #[.int .i64 0, .int .i64 5]) ∧ w = w' := by
  have he : ((s.size : Int) == 0) = true := by rw [h0]; rfl
  clear h0
  go_enter Try.func25, Try.ntmps25
  go_wp2
  go_ret2
  exact ⟨rfl, rfl⟩

set_option maxRecDepth 100000 in
set_option maxHeartbeats 400000 in
theorem r01get_big (s : ByteArray) (w : World) (h0 : 8 < s.size) :
    Calls Try.prog 25 #[.string s] w fun e w' => e = .returned (.tuple #[.int .i64 0, .int .i64 4]) ∧ w = w' := by
  go_enter Try.func25, Try.ntmps25
  go_wp2
  go_ret2
  exact ⟨rfl, rfl⟩

set_option maxRecDepth 100000 in
set_option maxHeartbeats 400000 in
theorem r01get_high (s : ByteArray) (w : World) (h8 : s.size = 8) (h : Hid (128 ≤ (s.data.toList[0]?.getD 0).toNat)) :
    Calls Try.prog 25 #[.string s] w fun e w' => e = .returned (.tuple #[.int .i64 0, .int .i64 3]) ∧ w = w' := by
  have h7' : ((s.size : Int) == 8) = true := by simp; omega
  have H := Lib.hid h8
  have hp : 0 < s.size := by omega
  have h9 : s.size ≤ 8 := by omega
  clear h8
  go_enter Try.func25, Try.ntmps25
  go_wp2
  · go_ret2
    exact ⟨rfl, rfl⟩
  · have := h.out
    rw [byte_head s hp] at this
    omega

theorem r01get_any (s : ByteArray) (w : World) :
    Calls Try.prog 25 #[.string s] w fun e w' => e = .returned (.tuple #[.int .i64 (getV s.data.toList), .int .i64 (getE s.data.toList)]) ∧ w = w' := by
  unfold getV
  by_cases h0 : s.size = 0
  · have : getE s.data.toList = 5 := by unfold getE; rw [if_pos (by rw [← Lib.size_eq]; exact h0)]
    rw [this]; exact r01get_short s w h0
  by_cases h8 : 8 < s.size
  · have : getE s.data.toList = 4 := by unfold getE; rw [if_neg (by rw [← Lib.size_eq]; exact h0), if_pos (by rw [← Lib.size_eq]; exact h8)]
    rw [this]; exact r01get_big s w h8
  by_cases hh : s.size = 8 ∧ 128 ≤ (s.data.toList[0]?.getD 0).toNat
  · have : getE s.data.toList = 3 := by
      unfold getE; rw [if_neg (by rw [← Lib.size_eq]; exact h0), if_neg (by rw [← Lib.size_eq]; exact h8), if_pos (by rw [← Lib.size_eq]; exact hh)]
    rw [this]; exact r01get_high s w hh.1 (Lib.hid hh.2)
  · have : getE s.data.toList = 0 := by
      unfold getE; rw [if_neg (by rw [← Lib.size_eq]; exact h0), if_neg (by rw [← Lib.size_eq]; exact h8), if_neg (by rw [← Lib.size_eq]; exact hh)]
    rw [this]; exact r01get_ok s w (by omega) (by omega) (Lib.hid fun e => Nat.lt_of_not_le fun h => hh ⟨e, h⟩)
end Go.Proofs.Ytapmnacggpcffaa
