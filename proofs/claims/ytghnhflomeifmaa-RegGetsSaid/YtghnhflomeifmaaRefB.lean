/- Contracts of the reference of layer 1: Xor. -/
import Derived.Test.YtghnhflomeifmaaLibC
import Derived.Test.YtghnhflomeifmaaBeD
namespace Go.Proofs.Ytghnhflomeifmaa
open Go.RowKit Go.Deep

theorem pow_facts (k : Nat) (h : k < 8) : ∃ p : Nat, 1 ≤ p ∧ p ≤ 128 ∧ p = 2 ^ k := by
  refine ⟨2 ^ k, Nat.pos_of_ne_zero (by simp), ?_, rfl⟩
  have : 2 ^ k ≤ 2 ^ 7 := Nat.pow_le_pow_right (by omega) (by omega)
  exact this

end Go.Proofs.Ytghnhflomeifmaa
