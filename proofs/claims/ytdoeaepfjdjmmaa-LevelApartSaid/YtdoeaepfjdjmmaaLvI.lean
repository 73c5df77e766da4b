/- Package level: Touch, Front by rows. -/
import Derived.Test.YtdoeaepfjdjmmaaLvH
namespace Go.Proofs.Ytdoeaepfjdjmmaa
open Go.RowKit Go.Deep
set_option linter.unusedVariables false
set_option linter.unusedSimpArgs false
set_option maxRecDepth 100000 in
theorem touch_any (B g n : Nat) (R : Nat → List Nat) (i : Int) (w : World) (h : QR w g n R) (hB : B ≤ g) : Calls Try.prog 20 #[.pointer (some ⟨g, 0, none⟩), .int .i64 i] w fun e w' => e = .returned (.int .i64 (misA R n i)) ∧ QR w' g n (if misA R n i = 0 then movA R i.toNat 0 else R) ∧ Kq B [g] w w' := by
  have PM := Lib.hid (move_any B g n R i 0 w h hB)
  clear h
  generalize (if misA R n i = 0 then movA R i.toNat 0 else R) = R' at *
  generalize misA R n i = z at *
  go_enter Try.func20, Try.ntmps20
  go_wp2_with fail
  refine PM.out.mono ?_
  rintro e w' ⟨rfl, q1, kk⟩
  have HZ := Lib.hid (⟨q1, kk⟩ : _ ∧ _)
  clear q1 kk
  go_wp2_with fail
  go_ret
  exact ⟨rfl, HZ.out.1, HZ.out.2⟩
/-- The first thing of a level. -/
def froA (R : Nat → List Nat) (l : Int) : Value := if 0 ≤ l ∧ l < 4 ∧ R l.toNat ≠ [] then .tuple #[.int .i64 (hdO (R l.toNat) 0), .bool true] else .tuple #[.int .i64 0, .bool false]
theorem hdO_any {L : List Nat} (h : L ≠ []) (p q : Int) : hdO L p = hdO L q := by
  cases L with
  | nil => exact absurd rfl h
  | cons x xs => rfl
set_option maxRecDepth 100000 in
set_option maxHeartbeats 4000000 in
theorem front_any (g n : Nat) (R : Nat → List Nat) (l : Int) (w : World) (h : QR w g n R) : Calls Try.prog 16 #[.pointer (some ⟨g, 0, none⟩), .int .i64 l] w fun e w' => e = .returned (froA R l) ∧ w = w' := by
  obtain ⟨F, hQ, hO⟩ := h
  have PL := Lib.hid (isLevel_any l w)
  unfold froA
  by_cases h2 : 0 ≤ l ∧ l < 4
  · rw [decide_eq_true h2] at PL
    obtain ⟨m, rfl⟩ : ∃ m : Nat, l = (m : Int) := ⟨l.toNat, by omega⟩
    have hm : m < 4 := by omega
    have hm' : (m : Int) < 4 := by omega
    rw [Int.toNat_natCast]
    have c1 := hQ.cell (49 + m) (by omega)
    rw [(hO.row m hm).fi] at c1
    by_cases h3 : R m = []
    · rw [if_neg (fun hh => hh.2.2 h3)]
      rw [h3] at c1
      have c1 : w.cell? ⟨g, 49 + m, none⟩ = some (.int .i64 (-1)) := c1
      clear hQ hO h3 h2
      go_enter Try.func16, Try.ntmps16
      go_wp2_with fail
      refine PL.out.mono ?_
      rintro e w' ⟨rfl, rfl⟩
      go_wp2_with fail
      go_ret2
      exact ⟨rfl, rfl⟩
    · rw [if_pos ⟨h2.1, h2.2, h3⟩]
      obtain ⟨y, hy, e2⟩ := hdO_mem (q := -1) h3
      rw [hdO_any h3 0 (-1), e2]
      rw [e2] at c1
      have hb : ((y : Int) == -1) = false := by simp
      clear hQ hO h3 h2 e2 hy
      go_enter Try.func16, Try.ntmps16
      go_wp2_with fail
      refine PL.out.mono ?_
      rintro e w' ⟨rfl, rfl⟩
      go_wp2_with fail
      go_ret2
      exact ⟨rfl, rfl⟩
  · rw [decide_eq_false h2] at PL
    rw [if_neg (fun hh => h2 ⟨hh.1, hh.2.1⟩)]
    clear h2 hQ hO
    go_enter Try.func16, Try.ntmps16
    go_wp2_with fail
    refine PL.out.mono ?_
    rintro e w' ⟨rfl, rfl⟩
    go_wp2_with fail
    go_ret2
    exact ⟨rfl, rfl⟩
end Go.Proofs.Ytdoeaepfjdjmmaa
