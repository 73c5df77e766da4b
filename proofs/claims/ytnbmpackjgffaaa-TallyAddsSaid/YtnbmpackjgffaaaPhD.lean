/- Contracts (cellaret): waves. -/
import Derived.Test.YtnbmpackjgffaaaPhC
import Derived.Deep.DrawnRows
import Derived.Deep.RegionLaw
namespace Go.Proofs.Ytnbmpackjgffaaa
open Go.RowKit
set_option linter.unusedVariables false
attribute [local go_sem] unary_negf run_store_complex run_store_float
attribute [local go_sem ↓] Go.wp_at_zero Go.wp_at_succ

theorem below_drewN {B : Nat} {a w : World} (h : Below B a w) (n : Nat) : Below B a (w.drewN n) := ⟨h.os, h.tape, h.output, h.size, h.block⟩
/-- The sums so far: those ahead of k whole, the k-th up to t. -/
def Sums (zs : Nat → Nat → Nat × Nat) (k t : Nat) (F : Nat → Nat × Nat) : Prop :=
  ∀ j, j < 4 → Chain (zs j) (if j < k then 4 else if j = k then t else 0) (F j)
theorem Sums.next {zs : Nat → Nat → Nat × Nat} {k t : Nat} {F : Nat → Nat × Nat} (h : Sums zs k t F) (hk : k < 4) (r s : Nat) (h1 : FAns (fadd (F k).1 (zs k t).1) r) (h2 : FAns (fadd (F k).2 (zs k t).2) s) : Sums zs k (t + 1) (fun j => if j = k then (r, s) else F j) := by
  intro j hj
  have := h j hj
  by_cases e : j = k
  · subst e
    simp only [Nat.lt_irrefl, if_false, if_true] at *
    exact ⟨F j, this, h1, h2⟩
  · simp only [if_neg e] at *
    exact this
theorem Sums.over {zs : Nat → Nat → Nat × Nat} {k : Nat} {F : Nat → Nat × Nat} (h : Sums zs k 4 F) : Sums zs (k + 1) 0 F := by
  intro j hj
  have := h j hj
  by_cases e : j < k
  · rw [if_pos e] at this
    rw [if_pos (by omega)]
    exact this
  · by_cases e' : j = k
    · rw [if_neg e, if_pos e'] at this
      rw [if_pos (by omega)]
      exact this
    · rw [if_neg e, if_neg e'] at this
      rw [if_neg (by omega)]
      split <;> exact this
theorem Sums.start (zs : Nat → Nat → Nat × Nat) : Sums zs 0 0 (fun _ => (0, 0)) := by
  intro j hj
  rw [if_neg (by omega)]
  split <;> rfl
end Go.Proofs.Ytnbmpackjgffaaa
