/- Contracts (cellaret): the law DiceApart. -/
import Derived.Test.YtfkepplpeakgmaaDiD
namespace Go.Proofs.Ytfkepplpeakgmaa
open Go.RowKit Go.Deep
set_option linter.unusedVariables false

def fact : Nat → Nat
  | 0 => 1
  | n + 1 => fact n * (n + 1)
/-- The draw that an order tells. -/
def dec : List Int → List Int → Nat
  | _, [] => 0
  | zs, z :: r => zs.findIdx (· == z) + zs.length * dec (zs.eraseIdx (zs.findIdx (· == z))) r
theorem order_dec (k x : Nat) (hk : k < 7) (hx : x < fact k) : dec ((List.range k).map Int.ofNat) (orderL x k) = x := by
  have h : ((List.range 7).all fun k => (List.range (fact k)).all fun x => dec ((List.range k).map Int.ofNat) (orderL x k) == x) = true := by decide +kernel
  rw [List.all_eq_true] at h
  have h1 := h k (List.mem_range.2 hk)
  rw [List.all_eq_true] at h1
  have h2 := h1 x (List.mem_range.2 hx)
  simpa using h2
theorem order_apart (k x y : Nat) (hk : k < 7) (hx : x < fact k) (hy : y < fact k) : decide (orderL x k = orderL y k) = decide (x = y) := by
  rw [decide_eq_decide]
  refine ⟨fun h => ?_, fun h => by rw [h]⟩
  rw [← order_dec k x hk hx, h, order_dec k y hk hy]
theorem orderGo_length (s left : Nat) (zs out : List Int) : (orderGo s left zs out).length = s + out.length := by
  induction s generalizing left zs out with
  | zero => simp [orderGo]
  | succ s ih => unfold orderGo; rw [ih]; simp; omega
theorem orderL_length (x k : Nat) : (orderL x k).length = k := by unfold orderL; rw [orderGo_length]; simp
theorem fact_pos (k : Nat) : 1 ≤ fact k := by
  induction k with
  | zero => exact Nat.le_refl _
  | succ k ih => unfold fact; exact Nat.mul_pos ih (by omega)
theorem fact_le (k : Nat) (hk : k < 7) : fact k ≤ 720 := by
  have : k = 0 ∨ k = 1 ∨ k = 2 ∨ k = 3 ∨ k = 4 ∨ k = 5 ∨ k = 6 := by omega
  rcases this with rfl | rfl | rfl | rfl | rfl | rfl | rfl <;> decide

theorem u16_nat {a : Int} (h : (Lit.int .u16 a).wf = true) : ∃ n : Nat, a = (n : Int) ∧ n < 65536 := by
  have := bounds_u16 h
  exact ⟨a.toNat, by omega, by omega⟩
theorem u8_nat {a : Int} (h : (Lit.int .u8 a).wf = true) : ∃ n : Nat, a = (n : Int) ∧ n < 256 := by
  have := bounds_u8 h
  exact ⟨a.toNat, by omega, by omega⟩
end Go.Proofs.Ytfkepplpeakgmaa
