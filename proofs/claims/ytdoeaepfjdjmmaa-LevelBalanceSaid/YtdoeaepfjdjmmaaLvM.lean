/- Package level: length, Len, Least. -/
import Derived.Test.YtdoeaepfjdjmmaaLvL
namespace Go.Proofs.Ytdoeaepfjdjmmaa
open Go.RowKit Go.Deep
set_option linter.unusedVariables false
set_option linter.unusedSimpArgs false
set_option maxRecDepth 100000 in
theorem length_any (g n : Nat) (R : Nat → List Nat) (l : Int) (w : World) (h : QR w g n R) : Calls Try.prog 34 #[.pointer (some ⟨g, 0, none⟩), .int .i64 l] w fun e w' => e = .returned (.int .i64 ((rowL R l).length : Int)) ∧ Below w.heap.size w w' := by
  have PL := Lib.hid (list_any g n R l w h)
  clear h
  generalize rowL R l = L at *
  obtain ⟨z, hz⟩ : ∃ z, L.length = z := ⟨_, rfl⟩
  rw [hz] at PL ⊢
  clear hz
  go_enter Try.func34, Try.ntmps34
  go_wp2_with fail
  refine PL.out.mono ?_
  rintro e w' ⟨v, base, rfl, _, ho, b⟩
  obtain ⟨a, c, rfl⟩ := own_slD ho
  have HB := Lib.hid b
  clear ho b
  go_wp2_with fail
  go_ret
  exact ⟨rfl, HB.out⟩
theorem QR.below {w w' : World} {g n : Nat} {R : Nat → List Nat} (h : QR w g n R) (b : Below w.heap.size w w') : QR w' g n R := by
  obtain ⟨F, hQ, hO⟩ := h
  exact ⟨F, hQ.below b, hO⟩
theorem QR.len {w : World} {g n : Nat} {R : Nat → List Nat} (h : QR w g n R) {l : Nat} (hl : l < 4) : (R l).length ≤ 16 := by
  obtain ⟨F, hQ, hO⟩ := h
  have := hO.n16
  exact nodup_le (hO.row l hl).nd 16 fun x hx => by have := hO.lt l hl x hx; omega
/-- How many things lie on the first k levels. -/
def lenS (R : Nat → List Nat) : Nat → Nat
  | 0 => 0
  | k + 1 => lenS R k + (R k).length
theorem lenS_le {w : World} {g n : Nat} {R : Nat → List Nat} (h : QR w g n R) (k : Nat) (hk : k ≤ 4) : lenS R k ≤ 16 * k := by
  induction k with
  | zero => exact Nat.le_refl _
  | succ k ih =>
    have := ih (by omega)
    have := h.len (l := k) (by omega)
    show lenS R k + (R k).length ≤ _
    omega
set_option maxRecDepth 100000 in
set_option maxHeartbeats 2000000 in
theorem len_any (g n : Nat) (R : Nat → List Nat) (w : World) (h : QR w g n R) : Calls Try.prog 13 #[.pointer (some ⟨g, 0, none⟩)] w fun e w' => e = .returned (.int .i64 (lenS R 4 : Int)) ∧ Below w.heap.size w w' := by
  have HL := Lib.hid (lenS_le h)
  obtain ⟨z4, hz4⟩ : ∃ z, Hid (lenS R 4 = z) := ⟨_, Lib.hid rfl⟩
  rw [hz4.out]
  have PL := Lib.hid (fun l w' (b : Below w.heap.size w w') => length_any g n R l w' (h.below b))
  clear h
  go_enter Try.func13, Try.ntmps13
  go_wp2_with fail
  go_loopw [3, 4, 5] (fun s3 s4 s5 wi => ∃ k : Nat, s3 = .int .i64 (lenS R k : Int) ∧ s5 = .int .i64 (k : Int) ∧ k ≤ 4 ∧ Hid (Below w.heap.size w wi)) (fun _ _ s5 _ => 4 - (intOf s5).toNat)
  case atStart => exact ⟨0, rfl, rfl, by omega, Lib.hid (Below.refl _ _)⟩
  case round =>
    obtain ⟨k, rfl, rfl, hk, HB⟩ := hrel
    by_cases hlt : k < 4
    · have hli : (k : Int) < 4 := by omega
      have e1 : rowL R (k : Int) = R k := by unfold rowL; rw [if_pos (by omega), Int.toNat_natCast]
      have e2 : lenS R k + (R k).length = lenS R (k + 1) := rfl
      have h1 := HL.out (k + 1) (by omega)
      rw [← e2] at h1
      have CS := Lib.hid (PL.out (k : Int) _ HB.out)
      rw [e1] at CS
      have E2 := Lib.hid e2
      clear e1 e2
      generalize (R k).length = y at *
      generalize hx : lenS R k = x at *
      clear hx
      have hw : wrap64 ((x : Int) + (y : Int)) = ((x + y : Nat) : Int) := by unfold wrap64; omega
      go_wp2_with fail
      refine CS.out.mono ?_
      rintro e w' ⟨rfl, b⟩
      have HB2 := Lib.hid (HB.out.trans (b.mono HB.out.size))
      clear b CS HB
      go_wp2_with fail
      go_roundw
      case rel => exact ⟨k + 1, by rw [← E2.out]; first | rfl | (congr 1) | (rw [hw]) | simp, by go_num, by omega, HB2⟩
      case measure => simp [intOf]; omega
    · obtain rfl : k = 4 := by omega
      rw [show ((4 : Nat) : Int) = 4 from rfl]
      rw [hz4.out]
      go_wp2_with fail
      go_ret
      exact ⟨rfl, HB.out⟩
/-- The first thing of the lowest level. -/
def lesA (R : Nat → List Nat) : Value := if R 0 ≠ [] then froA R 0 else if R 1 ≠ [] then froA R 1 else if R 2 ≠ [] then froA R 2 else if R 3 ≠ [] then froA R 3 else .tuple #[.int .i64 0, .bool false]
theorem lesA_at {R : Nat → List Nat} {k : Nat} (hk : k < 4) (h0 : ∀ m, m < k → R m = []) (h : R k ≠ []) : lesA R = froA R (k : Int) := by
  unfold lesA
  rcases (show k = 0 ∨ k = 1 ∨ k = 2 ∨ k = 3 by omega) with rfl | rfl | rfl | rfl
  · rw [if_pos h]; rfl
  · rw [if_neg (fun e => e (h0 0 (by omega))), if_pos h]; rfl
  · rw [if_neg (fun e => e (h0 0 (by omega))), if_neg (fun e => e (h0 1 (by omega))), if_pos h]; rfl
  · rw [if_neg (fun e => e (h0 0 (by omega))), if_neg (fun e => e (h0 1 (by omega))), if_neg (fun e => e (h0 2 (by omega))), if_pos h]; rfl
theorem lesA_no {R : Nat → List Nat} (h0 : ∀ m, m < 4 → R m = []) : lesA R = .tuple #[.int .i64 0, .bool false] := by
  unfold lesA
  rw [if_neg (fun e => e (h0 0 (by omega))), if_neg (fun e => e (h0 1 (by omega))), if_neg (fun e => e (h0 2 (by omega))), if_neg (fun e => e (h0 3 (by omega)))]
set_option maxRecDepth 100000 in
set_option maxHeartbeats 2000000 in
theorem least_any (g n : Nat) (R : Nat → List Nat) (w : World) (h : QR w g n R) : Calls Try.prog 17 #[.pointer (some ⟨g, 0, none⟩)] w fun e w' => e = .returned (lesA R) ∧ w = w' := by
  have PL := Lib.hid (fun l => front_any g n R l w h)
  clear h
  go_enter Try.func17, Try.ntmps17
  go_wp2_with fail
  go_step3
  go_wp2_with fail
  go_step3
  go_wp2_with fail
  go_loopw [4, 5, 6, 7, 8, 9] (fun s4 s5 s6 s7 s8 s9 wi => ∃ k : Nat, s4 = .int .i64 0 ∧ s5 = .bool false ∧ s9 = .int .i64 (k : Int) ∧ k ≤ 4 ∧ Hid (∀ m, m < k → R m = []) ∧ w = wi) (fun _ _ _ _ _ s9 _ => 4 - (intOf s9).toNat)
  case atStart => exact ⟨0, rfl, rfl, rfl, by omega, Lib.hid (fun m h => absurd h (by omega)), rfl⟩
  case round =>
    obtain ⟨k, rfl, rfl, rfl, hk, HE, rfl⟩ := hrel
    by_cases hlt : k < 4
    · have hli : (k : Int) < 4 := by omega
      have CS := Lib.hid (PL.out (k : Int))
      unfold froA at CS
      rw [Int.toNat_natCast] at CS
      by_cases h3 : R k = []
      · rw [if_neg (fun hh => hh.2.2 h3)] at CS
        have HE2 : Hid (∀ m, m < k + 1 → R m = []) := Lib.hid (fun m hm => by
          by_cases e : m = k
          · rw [e]; exact h3
          · exact HE.out m (by omega))
        clear h3 HE
        go_wp2_with fail
        refine CS.out.mono ?_
        rintro e w' ⟨rfl, rfl⟩
        go_wp2_with fail
        go_roundw
        case rel => exact ⟨k + 1, rfl, rfl, by go_num, by omega, HE2, trivial⟩
        case measure => simp [intOf]; omega
      · rw [if_pos ⟨by omega, by omega, h3⟩] at CS
        have HA : Hid (lesA R = .tuple #[.int .i64 (hdO (R k) 0), .bool true]) := Lib.hid (by
          rw [lesA_at hlt HE.out h3]
          unfold froA
          rw [Int.toNat_natCast, if_pos ⟨by omega, by omega, h3⟩])
        generalize hdO (R k) 0 = y at *
        clear h3 HE
        go_wp2_with fail
        refine CS.out.mono ?_
        rintro e w' ⟨rfl, rfl⟩
        go_wp2_with fail
        rw [Exit.noGoto_ret]
        go_ret2
        exact ⟨by rw [HA.out]; rfl, rfl⟩
    · obtain rfl : k = 4 := by omega
      rw [show ((4 : Nat) : Int) = 4 from rfl]
      have HA := Lib.hid (lesA_no HE.out)
      go_wp2_with fail
      rw [Exit.noGoto_ret]
      go_ret2
      exact ⟨by rw [HA.out]; rfl, rfl⟩
end Go.Proofs.Ytdoeaepfjdjmmaa
