/- The laws of layer 7 (cellaret): PhaseAdds, PhaseMuls. -/
import Derived.Test.YtfkepplpeakgmaaPhH
namespace Go.Proofs.Ytfkepplpeakgmaa
open Go.RowKit Go.Deep Go.ChangeShapes Go.WideShapes
set_option linter.unusedVariables false
attribute [local go_sem] unary_negf run_store_complex run_store_float

theorem small_abs {n : Int} (h : decide (0 ≤ n ∧ n ≤ 1048576) = true) : n.natAbs < 9007199254740992 := by
  have := of_decide_eq_true h
  omega
theorem fadd_congr2 {a a' b b' r r' : Nat} (h : sameF a a' = true) (h' : sameF b b' = true) (k : FAns (fadd a b) r) (k' : FAns (fadd a' b') r') : sameF r r' = true := by
  rcases same_cases h' with rfl | ⟨h1, h2⟩
  · exact fadd_congr h k k'
  · have e1 : ∀ a b : Nat, isNan b = true → fadd a b = none := fun a b hb => by
      obtain ⟨s, t, hh⟩ := read_nan hb
      show ((Ieee.double.read a).sum (Ieee.double.read b)).map _ = none
      rw [hh]
      cases Ieee.double.read a <;> rfl
    rw [e1 a b h1] at k
    rw [e1 a' b' h2] at k'
    exact k.congr k'
theorem fsub_congr2 {a a' b b' r r' : Nat} (h : sameF a a' = true) (h' : sameF b b' = true) (k : FAns (fsub a b) r) (k' : FAns (fsub a' b') r') : sameF r r' = true := by
  have e1 : ∀ a b : Nat, isNan b = true → fsub a b = none := fun a b hb => by
    obtain ⟨s, t, hh⟩ := read_nan hb
    show ((Ieee.double.read a).sum (Ieee.double.read b).opposite).map _ = none
    rw [hh]
    cases Ieee.double.read a <;> rfl
  have e2 : ∀ a b : Nat, isNan a = true → fsub a b = none := fun a b hb => by
    obtain ⟨s, t, hh⟩ := read_nan hb
    show ((Ieee.double.read a).sum _).map _ = none
    rw [hh]; rfl
  rcases same_cases h' with rfl | ⟨h1, h2⟩
  · rcases same_cases h with rfl | ⟨h3, h4⟩
    · exact k.congr k'
    · rw [e2 a b h3] at k
      rw [e2 a' b h4] at k'
      exact k.congr k'
  · rw [e1 a b h1] at k
    rw [e1 a' b' h2] at k'
    exact k.congr k'
end Go.Proofs.Ytfkepplpeakgmaa
