/- Contracts (cellaret): tally's small functions. -/
import Derived.Test.YtnbmpackjgffaaaProg
import Derived.WalkKit
import Derived.Lib.Hide
import Derived.IntWalk
namespace Go.Proofs.Ytnbmpackjgffaaa
open Go.RowKit
set_option linter.unusedVariables false
/-- Where a kind is counted. -/
def kindI (k : Int) : Int := if k < 1 ∨ 24 ≤ k then 0 else k
/-- Where an error is counted. -/
def errI (e : Int) : Int := if e < 0 ∨ 31 ≤ e then 31 else e
theorem kindI_range (k : Int) : 0 ≤ kindI k ∧ kindI k < 24 := by unfold kindI; split <;> omega
theorem errI_range (e : Int) : 0 ≤ errI e ∧ errI e < 32 := by unfold errI; split <;> omega
theorem kindAt_any (k : Int) (w : World) : Calls Try.prog 26 #[.int .i64 k] w fun e w' => e = .returned (.int .i64 (kindI k)) ∧ w = w' := by
  have hor : (k < 1) ∨ (1 ≤ k ∧ 24 ≤ k) ∨ (1 ≤ k ∧ k < 24) := by omega
  have h1 : kindI k = if k < 1 ∨ 24 ≤ k then 0 else k := rfl
  generalize kindI k = r at h1 ⊢
  go_enter Try.func26, Try.ntmps26
  rcases hor with h | ⟨h, h'⟩ | ⟨h, h'⟩
  · rw [if_pos (Or.inl h)] at h1
    subst h1
    go_wp2
    go_ret
    exact ⟨rfl, rfl⟩
  · rw [if_pos (Or.inr h')] at h1
    subst h1
    have hn : ¬ k < 1 := by omega
    go_wp2
    go_ret
    exact ⟨rfl, rfl⟩
  · rw [if_neg (by omega)] at h1
    subst h1
    have hn : ¬ r < 1 := by omega
    have hn' : ¬ 24 ≤ r := by omega
    go_wp2
    go_ret
    exact ⟨rfl, rfl⟩
theorem errorAt_any (k : Int) (w : World) : Calls Try.prog 27 #[.int .i64 k] w fun e w' => e = .returned (.int .i64 (errI k)) ∧ w = w' := by
  have hor : (k < 0) ∨ (0 ≤ k ∧ 31 ≤ k) ∨ (0 ≤ k ∧ k < 31) := by omega
  have h1 : errI k = if k < 0 ∨ 31 ≤ k then 31 else k := rfl
  generalize errI k = r at h1 ⊢
  go_enter Try.func27, Try.ntmps27
  rcases hor with h | ⟨h, h'⟩ | ⟨h, h'⟩
  · rw [if_pos (Or.inl h)] at h1
    subst h1
    go_wp2
    go_ret
    exact ⟨rfl, rfl⟩
  · rw [if_pos (Or.inr h')] at h1
    subst h1
    have hn : ¬ k < 0 := by omega
    go_wp2
    go_ret
    exact ⟨rfl, rfl⟩
  · rw [if_neg (by omega)] at h1
    subst h1
    have hn : ¬ r < 0 := by omega
    have hn' : ¬ 31 ≤ r := by omega
    go_wp2
    go_ret
    exact ⟨rfl, rfl⟩
end Go.Proofs.Ytnbmpackjgffaaa
