/- The reference's queue: Where. -/
import Derived.Test.YtfkepplpeakgmaaLvO
import Derived.Test.YtfkepplpeakgmaaDiF
namespace Go.Proofs.Ytfkepplpeakgmaa
open Go.RowKit Go.Deep
set_option linter.unusedVariables false
set_option linter.unusedSimpArgs false
/-- The reference's queue at block h: four lists of things. -/
def XqAt (w : World) (B h : Nat) (X : Nat → List Nat) : Prop := B ≤ h ∧ ∃ s : Nat → Value, w.rowIs h 59 4 s ∧ ∀ l, l < 4 → w.ownsRow B 3 1 (s l) (X l).length (nvL (X l))
def ziL (L : List Nat) : List Int := L.map fun x : Nat => (x : Int)
theorem ziL_length (L : List Nat) : (ziL L).length = L.length := by unfold ziL; simp
theorem nvL_zi (L : List Nat) : nvL L = (ziL L).map (Value.int .i64) := by unfold nvL ziL; rw [List.map_map]; rfl
theorem own_zi {w : World} {B : Nat} {v : Value} {L : List Nat} (h : w.ownsRow B 3 1 v L.length (nvL L)) : ∃ ao c, v = .slice ao L.length c ∧ IntsAt w ao L.length (ziL L) := by
  obtain ⟨a, c, rfl⟩ := own_slD h
  rw [nvL_zi, ← ziL_length] at h
  have := (IntsAt.own h).2
  exact ⟨a, c, rfl, by rw [ziL_length] at this; exact this⟩
theorem zi_mem {L : List Nat} {i : Nat} : (i : Int) ∈ ziL L ↔ i ∈ L := by
  unfold ziL
  rw [List.mem_map]
  constructor
  · rintro ⟨x, hx, e⟩
    have : x = i := by omega
    exact this ▸ hx
  · intro h; exact ⟨i, h, rfl⟩
set_option maxRecDepth 100000 in
set_option maxHeartbeats 2000000 in
theorem where_any (B h i : Nat) (X : Nat → List Nat) (w : World) (hX : XqAt w B h X) (hl : ∀ l, l < 4 → (X l).length ≤ 16) : Calls Try.prog 25 #[.pointer (some ⟨h, 0, none⟩), .int .i64 (i : Int)] w fun e w' => e = .returned (.int .i64 (lvl X i)) ∧ w = w' := by
  obtain ⟨_, s, hs, ho⟩ := hX
  have HS := Lib.hid hs
  have HO := Lib.hid (fun l hl' => own_zi (ho l hl'))
  have HL := Lib.hid hl
  clear hs ho hl
  go_enter Try.func25, Try.ntmps25
  go_wp2_with fail
  go_loopw [5] (fun s5 wi => ∃ k : Nat, s5 = .int .i64 (k : Int) ∧ k ≤ 4 ∧ Hid (∀ m, m < k → i ∉ X m) ∧ w = wi) (fun s5 _ => 4 - (intOf s5).toNat)
  case atStart => exact ⟨0, rfl, by omega, Lib.hid (fun m h => absurd h (by omega)), rfl⟩
  case round =>
    obtain ⟨k, rfl, hk, HE, rfl⟩ := hrel
    by_cases hlt : k < 4
    · have hli : (k : Int) < 4 := by omega
      have c0 := World.rowIs.cell HS.out (i := k) (by omega)
      obtain ⟨ao, c, e, hat⟩ := HO.out k hlt
      rw [e] at c0
      have hlen := HL.out k hlt
      have CH := Lib.hid (fun r hr => has_raw ao (X k).length c (ziL (X k)) (i : Int) w (ziL_length _) hat (by omega) r hr)
      clear e hat
      generalize (X k).length = len at *
      by_cases hm : i ∈ X k
      · have HV : Hid (lvl X i = (k : Int)) := Lib.hid (by
          have hE := HE.out
          unfold lvl
          rcases (show k = 0 ∨ k = 1 ∨ k = 2 ∨ k = 3 by omega) with rfl | rfl | rfl | rfl
          · rw [if_pos hm]; rfl
          · rw [if_neg (hE 0 (by omega)), if_pos hm]; rfl
          · rw [if_neg (hE 0 (by omega)), if_neg (hE 1 (by omega)), if_pos hm]; rfl
          · rw [if_neg (hE 0 (by omega)), if_neg (hE 1 (by omega)), if_neg (hE 2 (by omega)), if_pos hm]; rfl)
        have CS := Lib.hid (CH.out true (Lib.hid (decide_eq_true (zi_mem.2 hm))))
        clear hm CH HE
        go_wp2_with fail
        refine CS.out.mono ?_
        rintro e w' ⟨rfl, rfl⟩
        go_wp2_with fail
        go_ret
        exact ⟨by rw [HV.out]; rfl, rfl⟩
      · have HE2 : Hid (∀ m, m < k + 1 → i ∉ X m) := Lib.hid (fun m hm' => by
          by_cases e : m = k
          · rw [e]; exact hm
          · exact HE.out m (by omega))
        have CS := Lib.hid (CH.out false (Lib.hid (decide_eq_false (fun hh => hm (zi_mem.1 hh)))))
        clear hm CH HE
        go_wp2_with fail
        refine CS.out.mono ?_
        rintro e w' ⟨rfl, rfl⟩
        go_wp2_with fail
        go_roundw
        case rel => exact ⟨k + 1, by go_num, by omega, HE2, by first | rfl | trivial⟩
        case measure => simp [intOf]; omega
    · obtain rfl : k = 4 := by omega
      rw [show ((4 : Nat) : Int) = 4 from rfl]
      have HV := Lib.hid (lvl_no HE.out)
      go_wp2_with fail
      go_ret
      exact ⟨by rw [HV.out]; rfl, rfl⟩
end Go.Proofs.Ytfkepplpeakgmaa
