/- The reference's queue: Least. -/
import Derived.Test.YtfkepplpeakgmaaLvR
namespace Go.Proofs.Ytfkepplpeakgmaa
open Go.RowKit Go.Deep
set_option linter.unusedVariables false
set_option linter.unusedSimpArgs false
theorem lesI_at {X : Nat → List Nat} {k : Nat} (hk : k < 4) (h0 : ∀ m, m < k → X m = []) (h : X k ≠ []) : lesI X = hdO (X k) (-1) := by
  unfold lesI
  rcases (show k = 0 ∨ k = 1 ∨ k = 2 ∨ k = 3 by omega) with rfl | rfl | rfl | rfl
  · rw [if_pos h]
  · rw [if_neg (fun e => e (h0 0 (by omega))), if_pos h]
  · rw [if_neg (fun e => e (h0 0 (by omega))), if_neg (fun e => e (h0 1 (by omega))), if_pos h]
  · rw [if_neg (fun e => e (h0 0 (by omega))), if_neg (fun e => e (h0 1 (by omega))), if_neg (fun e => e (h0 2 (by omega)))]
theorem lesI_no {X : Nat → List Nat} (h0 : ∀ m, m < 4 → X m = []) : lesI X = -1 := by
  unfold lesI
  rw [if_neg (fun e => e (h0 0 (by omega))), if_neg (fun e => e (h0 1 (by omega))), if_neg (fun e => e (h0 2 (by omega))), h0 3 (by omega)]
  rfl
end Go.Proofs.Ytfkepplpeakgmaa
