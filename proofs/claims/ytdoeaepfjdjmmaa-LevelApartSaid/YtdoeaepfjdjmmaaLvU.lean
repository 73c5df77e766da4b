/- The reference's queue: Least. -/
import Derived.Test.YtdoeaepfjdjmmaaLvR
namespace Go.Proofs.Ytdoeaepfjdjmmaa
open Go.RowKit Go.Deep
set_option linter.unusedVariables false
set_option linter.unusedSimpArgs false
theorem lesI_at {X : Nat → List Nat} {k : Nat} (hk : k < 4) (h0 : ∀ m, m < k → X m = []) (h : X k ≠ []) : lesI X = hdO (X k) (-1) := by
  unfold lesI
  rcases (show k = 0 ∨ k = 1 ∨ k = 2 ∨ k = 3 by omega) with rfl | rfl | rfl | rfl
  · rw [if_pos h]
  · rw [if_neg (fun e => e (h0 0 (by omega))), if_pos h]
  · rw [if_neg (fun e => e (h0 0 (by omega))), if_neg (fun e => e (h0 1 (by omega))), if_pos h]
  · rw [if_neg (fun e => e (h0 0 (by omega))), if_neg (fun e => e (h0 1 (by omega))), if_neg (fun e => e (h0 2 (by omega)))]
theorem lesI_no {X : Nat → List Nat} (h0 : ∀ m, m < 4 → X m = []) : lesI X = -1 := by
  unfold lesI
  rw [if_neg (fun e => e (h0 0 (by omega))), if_neg (fun e => e (h0 1 (by omega))), if_neg (fun e => e (h0 2 (by omega))), h0 3 (by omega)]
  rfl
set_option maxRecDepth 100000 in
set_option maxHeartbeats 2000000 in
theorem rleast_any (B h : Nat) (X : Nat → List Nat) (w : World) (hX : XqAt w B h X) : Calls Try.prog 28 #[.pointer (some ⟨h, 0, none⟩)] w fun e w' => e = .returned (.int .i64 (lesI X)) ∧ w = w' := by
  obtain ⟨_, s, hs, ho⟩ := hX
  have HS := Lib.hid hs
  have HO := Lib.hid (fun l hl' => own_zi (ho l hl'))
  clear hs ho
  go_enter Try.func28, Try.ntmps28
  go_wp2_with fail
  go_loopw [3] (fun s3 wi => ∃ k : Nat, s3 = .int .i64 (k : Int) ∧ k ≤ 4 ∧ Hid (∀ m, m < k → X m = []) ∧ w = wi) (fun s3 _ => 4 - (intOf s3).toNat)
  case atStart => exact ⟨0, rfl, by omega, Lib.hid (fun m h => absurd h (by omega)), rfl⟩
  case round =>
    obtain ⟨k, rfl, hk, HE, rfl⟩ := hrel
    by_cases hlt : k < 4
    · have hli : (k : Int) < 4 := by omega
      have c0 := World.rowIs.cell HS.out (i := k) (by omega)
      obtain ⟨ao, c, e, hat⟩ := HO.out k hlt
      rw [e] at c0
      clear e
      by_cases h3 : X k = []
      · have HE2 : Hid (∀ m, m < k + 1 → X m = []) := Lib.hid (fun m hm' => by
          by_cases e : m = k
          · rw [e]; exact h3
          · exact HE.out m (by omega))
        rw [h3] at c0
        have c0 : w.cell? ⟨h, k, none⟩ = some (.slice ao 0 c) := c0
        clear h3 HE hat
        go_wp2_with fail
        go_roundw
        case rel => exact ⟨k + 1, by go_num, by omega, HE2, by first | rfl | trivial⟩
        case measure => simp [intOf]; omega
      · have HV := Lib.hid (lesI_at hlt HE.out h3)
        cases hL : X k with
        | nil => exact absurd hL h3
        | cons x xs =>
          rw [hL] at c0 hat HV
          obtain ⟨b, off, rfl, hb, hall⟩ := hat (by simp)
          have c1 := hall 0 (by simp)
          have c1 : w.cell? ⟨b, off, none⟩ = some (.int .i64 (x : Int)) := c1
          have HV2 : Hid (lesI X = (x : Int)) := HV
          obtain ⟨len, hlen⟩ : ∃ len, xs.length = len := ⟨_, rfl⟩
          have c0 : w.cell? ⟨h, k, none⟩ = some (.slice (some ⟨b, off, none⟩) (len + 1) c) := by rw [← hlen]; exact c0
          have hp : (0 : Int) < ((len + 1 : Nat) : Int) := by omega
          clear h3 hL hall hb HE HV hlen
          go_wp2_with fail
          go_ret
          exact ⟨by rw [HV2.out]; rfl, rfl⟩
    · obtain rfl : k = 4 := by omega
      rw [show ((4 : Nat) : Int) = 4 from rfl]
      have HV := Lib.hid (lesI_no HE.out)
      go_wp2_with fail
      go_ret
      exact ⟨by rw [HV.out]; rfl, rfl⟩
end Go.Proofs.Ytdoeaepfjdjmmaa
