/- Contracts of package be (cellaret): reading. -/
import Derived.Test.YtapmnacggpcffaaProg
import Derived.Test.YtapmnacggpcffaaLibB
import Derived.WalkLawsBesides
import Derived.Handy
import Derived.Lib.Hide
namespace Go.Proofs.Ytapmnacggpcffaa
open Go.RowKit Go.Deep

theorem byte0_lt (s : ByteArray) (h0 : 0 < s.size) (h : s.size = 8 → (s.data.toList[0]?.getD 0).toNat < 128) (e : s.size = 8) : ¬ 128 ≤ (s[0].toNat : Int) := by
  have := h e
  rw [byte_head s h0] at this
  omega

set_option maxRecDepth 100000 in
set_option maxHeartbeats 400000 in
theorem get_ok (s : ByteArray) (w : World) (h0 : 0 < s.size) (h8 : s.size ≤ 8) (h : Hid (s.size = 8 → (s.data.toList[0]?.getD 0).toNat < 128)) :
    Calls Try.prog 26 #[.string s] w fun e w' => e = .returned (.tuple #[.int .i64 (beV s.data.toList), .int .i64 0]) ∧ w = w' := by
  have he := not_empty s h0
  have hroom : Hid (∀ k, k < s.size → beV (s.data.toList.take k) ≤ 36028797018963967) := Lib.hid fun k hk =>
    beV_room _ k (by rw [← Lib.size_eq]; exact hk) (by rw [← Lib.size_eq]; exact h8) (by rw [← Lib.size_eq]; exact h.out)
  by_cases h7 : s.size = 8
  all_goals
    try have h7' : ((s.size : Int) == 8) = true := by simp; omega
    try have h7' : ((s.size : Int) == 8) = false := by simp; omega
    have H := Lib.hid h7
    clear h7
    go_enter Try.func26, Try.ntmps26
    go_wp2
    try
      have := byte0_lt s h0 h.out H.out
      exact absurd (by assumption) this
    clear h
    go_loop [4, 24] (fun n i => ∃ k : Nat, k ≤ s.size ∧ i = .int .i64 k ∧ n = .int .i64 (beV (s.data.toList.take k))) (fun _ i => s.size - (intOf i).toNat)
    case atStart => exact ⟨0, by omega, rfl, rfl⟩
    case round =>
      obtain ⟨k, hk, rfl, rfl⟩ := hrel
      have hn0 := beV_nonneg (s.data.toList.take k)
      by_cases hlt : k < s.size
      · have hnl := hroom.out k hlt
        have hsn := Lib.hid (take_byte s k hlt)
        go_wp2
        go_round
        case rel => exact ⟨k + 1, by omega, by go_num, by rw [hsn.out, beV_snoc, or_byte _ _ hn0 hnl]⟩
        case measure => simp [intOf]; omega
      · have hall := Lib.hid (take_all s k (by omega))
        go_wp2
        go_ret2
        exact ⟨by rw [hall.out]; rfl, rfl⟩

set_option maxRecDepth 100000 in
set_option maxHeartbeats 400000 in
theorem get_short (s : ByteArray) (w : World) (h0 : s.size = 0) :
    Calls Try.prog 26 #[.string s] w fun e w' => e = .returned (.tuple #[.int .i64 0, .int .i64 5]) ∧ w = w' := by
  have he := is_empty s h0
  clear h0
  go_enter Try.func26, Try.ntmps26
  go_wp2
  go_ret2
  exact ⟨rfl, rfl⟩

set_option maxRecDepth 100000 in
set_option maxHeartbeats 400000 in
theorem get_big (s : ByteArray) (w : World) (h0 : 8 < s.size) :
    Calls Try.prog 26 #[.string s] w fun e w' => e = .returned (.tuple #[.int .i64 0, .int .i64 4]) ∧ w = w' := by
  have he := not_empty s (by omega)
  go_enter Try.func26, Try.ntmps26
  go_wp2
  go_ret2
  exact ⟨rfl, rfl⟩

set_option maxRecDepth 100000 in
set_option maxHeartbeats 400000 in
theorem get_high (s : ByteArray) (w : World) (h8 : s.size = 8) (h : Hid (128 ≤ (s.data.toList[0]?.getD 0).toNat)) :
    Calls Try.prog 26 #[.string s] w fun e w' => e = .returned (.tuple #[.int .i64 0, .int .i64 3]) ∧ w = w' := by
  have he := not_empty s (by omega)
  have h7' : ((s.size : Int) == 8) = true := by simp; omega
  have H := Lib.hid h8
  have hp : 0 < s.size := by omega
  have h9 : s.size ≤ 8 := by omega
  clear h8
  go_enter Try.func26, Try.ntmps26
  go_wp2
  · go_ret2
    exact ⟨rfl, rfl⟩
  · have := h.out
    rw [byte_head s hp] at this
    omega

theorem get_any (s : ByteArray) (w : World) :
    Calls Try.prog 26 #[.string s] w fun e w' => e = .returned (.tuple #[.int .i64 (getV s.data.toList), .int .i64 (getE s.data.toList)]) ∧ w = w' := by
  unfold getV
  by_cases h0 : s.size = 0
  · have : getE s.data.toList = 5 := by unfold getE; rw [if_pos (by rw [← Lib.size_eq]; exact h0)]
    rw [this]; exact get_short s w h0
  by_cases h8 : 8 < s.size
  · have : getE s.data.toList = 4 := by unfold getE; rw [if_neg (by rw [← Lib.size_eq]; exact h0), if_pos (by rw [← Lib.size_eq]; exact h8)]
    rw [this]; exact get_big s w h8
  by_cases hh : s.size = 8 ∧ 128 ≤ (s.data.toList[0]?.getD 0).toNat
  · have : getE s.data.toList = 3 := by
      unfold getE; rw [if_neg (by rw [← Lib.size_eq]; exact h0), if_neg (by rw [← Lib.size_eq]; exact h8), if_pos (by rw [← Lib.size_eq]; exact hh)]
    rw [this]; exact get_high s w hh.1 (Lib.hid hh.2)
  · have : getE s.data.toList = 0 := by
      unfold getE; rw [if_neg (by rw [← Lib.size_eq]; exact h0), if_neg (by rw [← Lib.size_eq]; exact h8), if_neg (by rw [← Lib.size_eq]; exact hh)]
    rw [this]; exact get_ok s w (by omega) (by omega) (Lib.hid fun e => Nat.lt_of_not_le fun h => hh ⟨e, h⟩)
end Go.Proofs.Ytapmnacggpcffaa
