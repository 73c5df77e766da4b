/- Contracts of package dice (cellaret): what takes numbers out of a draw; weights' sum. -/
import Derived.Test.YtdoeaepfjdjmmaaProg
import Derived.Test.YtdoeaepfjdjmmaaLib
import Derived.WalkLawsBesides
import Derived.Handy
import Derived.Lib.Hide
import Derived.RegionTactic
import Derived.Deep.QuietTactic
import Derived.Deep.RegionLaw
import Derived.BigQuiet
import Derived.OpenShut
import Derived.OwnWalk
namespace Go.Proofs.Ytdoeaepfjdjmmaa
open Go.RowKit Go.Deep
set_option linter.unusedVariables false

theorem below_trans {w w1 w2 : World} (h1 : Below w.heap.size w w1) (h2 : Below w1.heap.size w1 w2) : Below w.heap.size w w2 := h1.trans (h2.mono h1.size)
theorem below_drewN {B : Nat} {a w : World} (h : Below B a w) (n : Nat) : Below B a (w.drewN n) := ⟨h.os, h.tape, h.output, h.size, h.block⟩
theorem Try.info_i64 : (Try.prog.info? 3).map (fun i => (i.zero, i.size, i.bytes)) = some (some (.int .i64 0), 1, 8) := by kernel_rfl
theorem divs (a n : Nat) : (a : Int).tdiv n = ((a / n : Nat) : Int) ∧ (a : Int).tmod n = ((a % n : Nat) : Int) := by
  rw [Int.tdiv_eq_ediv_of_nonneg (by omega), Int.tmod_eq_emod_of_nonneg (by omega)]
  exact ⟨rfl, rfl⟩

/-- Weights' sum, of so many. -/
def wsum (ws : List Int) : Nat → Int
  | 0 => 0
  | k + 1 => wsum ws k + ws.getD k 0
def fits (x : Int) : Prop := 0 ≤ x ∧ x ≤ 1048576
theorem wsum_bound (ws : List Int) (k : Nat) (h : ∀ i, i < k → fits (ws.getD i 0)) : 0 ≤ wsum ws k ∧ wsum ws k ≤ k * 1048576 := by
  induction k with
  | zero => exact ⟨Int.le_refl _, by simp [wsum]⟩
  | succ k ih =>
    have h1 := ih (fun i hi => h i (by omega))
    have h2 := h k (by omega)
    unfold fits at h2
    unfold wsum
    omega
theorem wsum_mono (ws : List Int) (j k : Nat) (hjk : j ≤ k) (h : ∀ i, i < k → fits (ws.getD i 0)) : wsum ws j ≤ wsum ws k := by
  induction k with
  | zero => have : j = 0 := by omega
            subst this; exact Int.le_refl _
  | succ k ih =>
    by_cases e : j = k + 1
    · subst e; exact Int.le_refl _
    · have := ih (by omega) (fun i hi => h i (by omega))
      have h2 := h k (by omega)
      unfold fits at h2
      show wsum ws j ≤ wsum ws k + ws.getD k 0
      omega
theorem wsum_place (ws : List Int) (n : Nat) (k : Int) (h0 : 0 ≤ k) (hk : k < wsum ws n) : ∃ i, i < n ∧ wsum ws i ≤ k ∧ k < wsum ws (i + 1) := by
  induction n with
  | zero => simp [wsum] at hk; omega
  | succ n ih =>
    by_cases h : k < wsum ws n
    · obtain ⟨i, h1, h2⟩ := ih h
      exact ⟨i, by omega, h2⟩
    · exact ⟨n, by omega, by omega, hk⟩

/-- Where a slice of numbers lies. -/
def IntsAt (w : World) (ao : Option Addr) (len : Nat) (zs : List Int) : Prop :=
  0 < len → ∃ b off, ao = some ⟨b, off, none⟩ ∧ b < w.heap.size ∧ ∀ i, i < len → w.cell? ⟨b, off + i, none⟩ = some (.int .i64 (zs.getD i 0))
theorem IntsAt.below {w w' : World} {ao : Option Addr} {len : Nat} {zs : List Int} (h : IntsAt w ao len zs) (hb : Below w.heap.size w w') : IntsAt w' ao len zs := fun hp => by
  obtain ⟨b, off, h1, h2, h3⟩ := h hp
  exact ⟨b, off, h1, Nat.lt_of_lt_of_le h2 hb.size, fun i hi => (hb.cell (p := ⟨b, off + i, none⟩) h2).trans (h3 i hi)⟩

/-- What total answers. -/
def totE (ws : List Int) (len : Nat) (r : Int × Int) : Prop :=
  ((∃ i, i < len ∧ ¬ fits (ws.getD i 0)) → r = (0, 2)) ∧ ((∀ i, i < len → fits (ws.getD i 0)) → r = if wsum ws len = 0 then (0, 7) else (wsum ws len, 0))
end Go.Proofs.Ytdoeaepfjdjmmaa
