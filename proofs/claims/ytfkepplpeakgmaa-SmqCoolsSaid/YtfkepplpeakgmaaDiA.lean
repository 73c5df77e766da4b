/- Contracts of package dice (cellaret): what takes numbers out of a draw; weights' sum. -/
import Derived.Test.YtfkepplpeakgmaaProg
import Derived.Test.YtfkepplpeakgmaaLib
import Derived.WalkLawsBesides
import Derived.Handy
import Derived.Lib.Hide
import Derived.RegionTactic
import Derived.Deep.QuietTactic
import Derived.Deep.RegionLaw
import Derived.BigQuiet
import Derived.OpenShut
import Derived.OwnWalk
namespace Go.Proofs.Ytfkepplpeakgmaa
open Go.RowKit Go.Deep
set_option linter.unusedVariables false

theorem below_trans {w w1 w2 : World} (h1 : Below w.heap.size w w1) (h2 : Below w1.heap.size w1 w2) : Below w.heap.size w w2 := h1.trans (h2.mono h1.size)
theorem below_drewN {B : Nat} {a w : World} (h : Below B a w) (n : Nat) : Below B a (w.drewN n) := ⟨h.os, h.tape, h.output, h.size, h.block⟩
theorem Try.info_i64 : (Try.prog.info? 3).map (fun i => (i.zero, i.size, i.bytes)) = some (some (.int .i64 0), 1, 8) := by kernel_rfl
theorem divs (a n : Nat) : (a : Int).tdiv n = ((a / n : Nat) : Int) ∧ (a : Int).tmod n = ((a % n : Nat) : Int) := by
  rw [Int.tdiv_eq_ediv_of_nonneg (by omega), Int.tmod_eq_emod_of_nonneg (by omega)]
  exact ⟨rfl, rfl⟩

theorem roller_any (n : Int) (w : World) :
    Calls Try.prog 45 #[.int .i64 n] w fun e w' => e = .returned (.func (.func 57) #[] #[.pointer (some ⟨w.heap.size, 0, none⟩)]) ∧ w.alloc (.cells #[.int .i64 n] 3) = w' := by
  go_enter Try.func45, Try.ntmps45
  go_wp2
  go_ret
  exact ⟨rfl, rfl⟩
set_option maxRecDepth 100000 in
set_option maxHeartbeats 400000 in
theorem roll_any (b draw n k q : Nat) (w : World) (hc : w.cell? ⟨b, 0, none⟩ = some (.int .i64 draw)) (hf : w.frozen? ⟨b, 0, none⟩ = false) (hd : draw ≤ 9223372036854775807) (hn : 1 ≤ n) (hk : Hid (draw % n = k)) (hq : Hid (draw / n = q)) :
    Calls Try.prog 57 #[.int .i64 n, .pointer (some ⟨b, 0, none⟩)] w fun e w' => e = .returned (.tuple #[.int .i64 k, .int .i64 q]) ∧ ∃ d, (w.setCell ⟨b, 0, none⟩ (.int .i64 q)).drewN d = w' := by
  obtain ⟨h1, h2⟩ := divs draw n
  rw [hq.out] at h1
  rw [hk.out] at h2
  have hqd : q ≤ draw := by rw [← hq.out]; exact Nat.div_le_self _ _
  go_enter Try.func57, Try.ntmps57
  go_wp2
  go_quiet (fail)
  go_wp2
  go_ret2
  exact ⟨rfl, _, rfl⟩

/-- Weights' sum, of so many. -/
def wsum (ws : List Int) : Nat → Int
  | 0 => 0
  | k + 1 => wsum ws k + ws.getD k 0
def fits (x : Int) : Prop := 0 ≤ x ∧ x ≤ 1048576
theorem wsum_bound (ws : List Int) (k : Nat) (h : ∀ i, i < k → fits (ws.getD i 0)) : 0 ≤ wsum ws k ∧ wsum ws k ≤ k * 1048576 := by
  induction k with
  | zero => exact ⟨Int.le_refl _, by simp [wsum]⟩
  | succ k ih =>
    have h1 := ih (fun i hi => h i (by omega))
    have h2 := h k (by omega)
    unfold fits at h2
    unfold wsum
    omega
theorem wsum_mono (ws : List Int) (j k : Nat) (hjk : j ≤ k) (h : ∀ i, i < k → fits (ws.getD i 0)) : wsum ws j ≤ wsum ws k := by
  induction k with
  | zero => have : j = 0 := by omega
            subst this; exact Int.le_refl _
  | succ k ih =>
    by_cases e : j = k + 1
    · subst e; exact Int.le_refl _
    · have := ih (by omega) (fun i hi => h i (by omega))
      have h2 := h k (by omega)
      unfold fits at h2
      show wsum ws j ≤ wsum ws k + ws.getD k 0
      omega
theorem wsum_place (ws : List Int) (n : Nat) (k : Int) (h0 : 0 ≤ k) (hk : k < wsum ws n) : ∃ i, i < n ∧ wsum ws i ≤ k ∧ k < wsum ws (i + 1) := by
  induction n with
  | zero => simp [wsum] at hk; omega
  | succ n ih =>
    by_cases h : k < wsum ws n
    · obtain ⟨i, h1, h2⟩ := ih h
      exact ⟨i, by omega, h2⟩
    · exact ⟨n, by omega, by omega, hk⟩

/-- Where a slice of numbers lies. -/
def IntsAt (w : World) (ao : Option Addr) (len : Nat) (zs : List Int) : Prop :=
  0 < len → ∃ b off, ao = some ⟨b, off, none⟩ ∧ b < w.heap.size ∧ ∀ i, i < len → w.cell? ⟨b, off + i, none⟩ = some (.int .i64 (zs.getD i 0))
theorem IntsAt.below {w w' : World} {ao : Option Addr} {len : Nat} {zs : List Int} (h : IntsAt w ao len zs) (hb : Below w.heap.size w w') : IntsAt w' ao len zs := fun hp => by
  obtain ⟨b, off, h1, h2, h3⟩ := h hp
  exact ⟨b, off, h1, Nat.lt_of_lt_of_le h2 hb.size, fun i hi => (hb.cell (p := ⟨b, off + i, none⟩) h2).trans (h3 i hi)⟩

set_option maxRecDepth 100000 in
set_option maxHeartbeats 400000 in
theorem total_big (ao : Option Addr) (len cap : Nat) (w : World) (h : 64 < len) :
    Calls Try.prog 44 #[.slice ao len cap] w fun e w' => e = .returned (.tuple #[.int .i64 0, .int .i64 4]) ∧ w = w' := by
  go_enter Try.func44, Try.ntmps44
  go_wp2
  go_ret2
  exact ⟨rfl, rfl⟩
/-- What total answers. -/
def totE (ws : List Int) (len : Nat) (r : Int × Int) : Prop :=
  ((∃ i, i < len ∧ ¬ fits (ws.getD i 0)) → r = (0, 2)) ∧ ((∀ i, i < len → fits (ws.getD i 0)) → r = if wsum ws len = 0 then (0, 7) else (wsum ws len, 0))
set_option maxRecDepth 100000 in
set_option maxHeartbeats 400000 in
theorem total_any (ao : Option Addr) (len cap : Nat) (ws : List Int) (w : World) (h : len ≤ 64) (hat : IntsAt w ao len ws) :
    Calls Try.prog 44 #[.slice ao len cap] w fun e w' => (∃ x y, e = .returned (.tuple #[.int .i64 x, .int .i64 y]) ∧ totE ws len (x, y)) ∧ w = w' := by
  have HAT := Lib.hid hat
  clear hat
  go_enter Try.func44, Try.ntmps44
  go_wp2
  go_loop [4, 12] (fun x y => ∃ (i : Nat) (s : Int), x = .int .i64 s ∧ y = .int .i64 i ∧ i ≤ len ∧ 0 ≤ s ∧ s ≤ i * 1048576 ∧ Hid (wsum ws i = s ∧ ∀ j, j < i → fits (ws.getD j 0)))
    (fun _ y => len - (intOf y).toNat)
  case atStart => exact ⟨0, 0, rfl, rfl, by omega, by omega, by omega, Lib.hid ⟨rfl, fun j hj => absurd hj (by omega)⟩⟩
  case round =>
    obtain ⟨i, s, rfl, rfl, hi, hs0, hs1, HS⟩ := hrel
    by_cases hlt : i < len
    · obtain ⟨b, off, rfl, hb, hc⟩ := HAT.out (by omega)
      have c0 := hc i hlt
      clear hc
      have HZ := Lib.hid (rfl : ws.getD i 0 = ws.getD i 0)
      by_cases hf : fits (ws.getD i 0)
      · have hw := Lib.hid (show wsum ws (i + 1) = s + ws.getD i 0 from by unfold wsum; rw [HS.out.1])
        have hall : Hid (∀ j, j < i + 1 → fits (ws.getD j 0)) := Lib.hid (fun j hj => by
          by_cases e : j = i
          · rw [e]; exact hf
          · exact HS.out.2 j (by omega))
        generalize ws.getD i 0 = z at hw c0 hf
        obtain ⟨f1, f2⟩ := hf
        go_wp2
        go_round
        case rel => exact ⟨i + 1, s + z, by go_num, by go_num, by omega, by omega, by omega, Lib.hid ⟨hw.out, hall.out⟩⟩
        case measure => simp [intOf]; omega
      · have hT : totE ws len (0, 2) := ⟨fun _ => rfl, fun h => absurd (h i hlt) hf⟩
        generalize ws.getD i 0 = z at c0 hf
        have hor : z < 0 ∨ (0 ≤ z ∧ 1048576 < z) := by unfold fits at hf; omega
        clear hf
        rcases hor with hz | ⟨hz1, hz⟩
        all_goals
          go_wp2
          go_ret2
          exact ⟨⟨0, 2, rfl, hT⟩, rfl⟩
    · obtain rfl : i = len := by omega
      by_cases h0 : s = 0
      · subst h0
        have hT : totE ws i (0, 7) := ⟨fun ⟨j, h1, h2⟩ => absurd (HS.out.2 j h1) h2, fun _ => by rw [if_pos HS.out.1]⟩
        go_wp2
        go_ret2
        exact ⟨⟨0, 7, rfl, hT⟩, rfl⟩
      · have hT : totE ws i (s, 0) := ⟨fun ⟨j, h1, h2⟩ => absurd (HS.out.2 j h1) h2, fun _ => by rw [HS.out.1, if_neg h0]⟩
        have hb : (s == 0) = false := by rw [beq_eq_false_iff_ne]; exact h0
        clear h0
        go_wp2
        go_ret2
        exact ⟨⟨s, 0, rfl, hT⟩, rfl⟩
end Go.Proofs.Ytfkepplpeakgmaa
