/- Contracts (cellaret): the reference of phases: the same floats, turns, quarters. -/
import Derived.Test.YtfkepplpeakgmaaPhA
namespace Go.Proofs.Ytfkepplpeakgmaa
open Go.RowKit
set_option linter.unusedVariables false
attribute [local go_sem] unary_negf

theorem order_one_zero : (FloatKind.f64.format.order 0 0 == some Ordering.eq) = true := by decide +kernel
theorem quo_zero : floatBits .quo .f64 4607182418800017408 0 = some 9218868437227405312 ∧ floatBits .quo .f64 4607182418800017408 9223372036854775808 = some 18442240474082181120 := by decide +kernel
theorem nan_neq {a : Nat} (h : isNan a = true) : (FloatKind.f64.format.order a a != some Ordering.eq) = true := by rw [order_b, h]
theorem num_neq {a : Nat} (h : isNan a = false) : (FloatKind.f64.format.order a a != some Ordering.eq) = false := by rw [order_b, h]
theorem order_z {a : Nat} (hal : a < 18446744073709551616) : (FloatKind.f64.format.order a 0 != some Ordering.eq) = !decide (rung a = 0) := by
  have := order_zero hal
  show (Ieee.double.order a 0 != some .eq) = _
  rw [← this]; rfl
end Go.Proofs.Ytfkepplpeakgmaa
