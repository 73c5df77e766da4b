/- Contracts of package phase (cellaret): what is no number or infinite, turns, sameness. -/
import Derived.Test.YtfkepplpeakgmaaProg
import Derived.Test.YtfkepplpeakgmaaPhM
import Derived.WalkKit
import Derived.WalkLawsBesides
import Derived.Handy
import Derived.Lib.Hide
import Derived.Laws.Externs
import Derived.Laws.Cover3
import Derived.IntWalk
import Derived.RegionTactic
import Derived.Deep.QuietTactic
import Derived.BigQuiet
import Derived.Outline
namespace Go.Proofs.Ytfkepplpeakgmaa
open Go.RowKit
set_option linter.unusedVariables false

theorem unary_negf (b : Nat) : Op.unary .neg (.float .f64 b) = pure (.float .f64 (fneg b)) := rfl
attribute [local go_sem] unary_negf
theorem order_b (a : Nat) : (FloatKind.f64.format.order a a != some Ordering.eq) = isNan a := by
  show (Ieee.double.order a a != some .eq) = _
  cases h : isNan a
  · rw [order_self h]; rfl
  · rw [order_nan_l a h]; rfl
theorem clear_top (a : Nat) (h : a < 18446744073709551616) : bits BinOp.andNot .u64 (a : Int) 9223372036854775808 = ((rung a : Nat) : Int) := by
  have h1 : (BitVec.ofInt 64 (a : Int)).toNat = a := by
    rw [BitVec.ofInt_natCast, BitVec.toNat_ofNat]; exact Nat.mod_eq_of_lt (by omega)
  have h2 : (~~~ (BitVec.ofInt 64 9223372036854775808)).toNat = 2 ^ 63 - 1 := by decide +kernel
  show IntKind.u64.wrap ((BitVec.ofInt 64 (a : Int) &&& ~~~ (BitVec.ofInt 64 9223372036854775808)).toNat : Int) = _
  rw [BitVec.toNat_and, h1, h2, Nat.and_two_pow_sub_one_eq_mod]
  have e : a % 2 ^ 63 = rung a := rfl
  rw [e]
  have : rung a < 9223372036854775808 := Nat.mod_lt _ (by omega)
  simp [IntKind.wrap, IntKind.bits, IntKind.signed]
  omega
/-- A phase turned by so many quarters. -/
def turnF : Nat → Nat × Nat → Nat × Nat
  | 0, z => z
  | n + 1, z => (fneg (turnF n z).2, (turnF n z).1)
theorem turnF_lt (n : Nat) (z : Nat × Nat) (h1 : z.1 < 18446744073709551616) (h2 : z.2 < 18446744073709551616) : (turnF n z).1 < 18446744073709551616 ∧ (turnF n z).2 < 18446744073709551616 := by
  induction n with
  | zero => exact ⟨h1, h2⟩
  | succ n ih => exact ⟨fneg_lt ih.2, ih.1⟩
theorem turner1_any (a b n g : Nat) (w : World) (hn : n < 4) (hc : w.cell? ⟨g, 0, none⟩ = some (.int .i64 n)) :
    Calls Try.prog 69 #[.complex .f64 a b, .pointer (some ⟨g, 0, none⟩)] w fun e w' => e = .returned (.complex .f64 (turnF n (a, b)).1 (turnF n (a, b)).2) ∧ w = w' := by

  go_enter Try.func69, Try.ntmps69
  go_wp2
  go_loop [0, 5] (fun z x => ∃ i : Nat, x = .int .i64 i ∧ i ≤ n ∧ z = .complex .f64 (turnF i (a, b)).1 (turnF i (a, b)).2) (fun _ x => n - (intOf x).toNat)
  case atStart => exact ⟨0, rfl, by omega, rfl⟩
  case round =>
    obtain ⟨i, rfl, hi, rfl⟩ := hrel
    by_cases hlt : i < n
    · go_wp2
      go_round
      case rel => exact ⟨i + 1, by go_num, by omega, rfl⟩
      case measure => simp [intOf]; omega
    · obtain rfl : i = n := by omega
      go_wp2
      go_ret
      exact ⟨rfl, rfl⟩
theorem tmod4 (n : Int) : -3 ≤ n.tmod 4 ∧ n.tmod 4 ≤ 3 ∧ (n.tmod 4 + 4) % 4 = n % 4 := by
  rw [Int.tmod_eq_emod]
  split <;> omega
theorem turner_any (n : Int) (w : World) (q : Nat) (hq : n % 4 = (q : Int)) (hn : -9223372036854775808 ≤ n ∧ n ≤ 9223372036854775807) :
    Calls Try.prog 68 #[.int .i64 n] w fun e w' => e = .returned (.func (.func 69) #[] #[.pointer (some ⟨w.heap.size, 0, none⟩)]) ∧ w.alloc (.cells #[.int .i64 q] 3) = w' := by
  obtain ⟨h1, h2, h3⟩ := tmod4 n
  rw [hq] at h3
  have hq4 : q < 4 := by omega
  clear hq
  go_enter Try.func68, Try.ntmps68
  go_wp2
  go_ret
  exact ⟨rfl, rfl⟩
theorem turn_any (a b : Nat) (n : Int) (w : World) (q : Nat) (hq : n % 4 = (q : Int)) (hn : -9223372036854775808 ≤ n ∧ n ≤ 9223372036854775807) :
    Calls Try.prog 67 #[.complex .f64 a b, .int .i64 n] w fun e w' => e = .returned (.complex .f64 (turnF q (a, b)).1 (turnF q (a, b)).2) ∧ Below w.heap.size w w' := by
  have hq4 : q < 4 := by omega
  have HQ := Lib.hid (turner_any n w q hq hn)
  have HT := Lib.hid (turner1_any a b q w.heap.size (w.alloc (.cells #[.int .i64 q] 3)) hq4 (by simp))
  clear hq
  go_enter Try.func67, Try.ntmps67
  go_wp2_with fail
  refine HQ.out.mono ?_
  rintro e w1 ⟨rfl, rfl⟩
  go_wp2_with fail
  refine HT.out.mono ?_
  rintro e w1 ⟨rfl, rfl⟩
  go_wp2
  go_ret
  exact ⟨rfl, (Below.refl _ _).alloc (Nat.le_refl _) _⟩
/-- A sum, a product .. that has no answer: some float that is no number. -/
theorem arith_nan (op : BinOp) (t : TypeId) (a b : Nat) (w : World) (hop : op = .add ∨ op = .sub ∨ op = .mul ∨ op = .quo) (h : floatBits op .f64 a b = none) : ∃ r, isNan r = true ∧ r < 18446744073709551616 ∧ (binOp op t (.float .f64 a) (.float .f64 b)).run Try.prog w = .ok (.float .f64 r) w.drew := by
  have key : (binOp op t (.float .f64 a) (.float .f64 b)).run Try.prog w = .ok (.float .f64 ((w.tape w.drawn (.nanBits .f64 a b)) % 2 * 2 ^ 63 + 0x7ff0000000000000 + 1 + (w.tape w.drawn (.nanBits .f64 a b)) / 2 % (2 ^ 52 - 1))) w.drew := by
    unfold floatBits at h
    rcases hop with rfl | rfl | rfl | rfl <;> simp only at h <;> simp [binOp, Op.floatArith, h, go_sem] <;> rfl
  clear h
  generalize w.tape w.drawn (.nanBits .f64 a b) = T at key
  have u1 : T / 2 % (2 ^ 52 - 1) < 4503599627370495 := Nat.mod_lt _ (by decide)
  have u2 : T % 2 < 2 := Nat.mod_lt _ (by decide)
  generalize T / 2 % (2 ^ 52 - 1) = u at key u1
  generalize T % 2 = s at key u2
  refine ⟨_, ?_, ?_, key⟩
  · unfold isNan rung
    rw [decide_eq_true_eq]
    omega
  · omega
theorem float_wf {a : Nat} (h : (Lit.float .f64 a).wf = true) : a < 18446744073709551616 := by simpa [Lit.wf] using h
end Go.Proofs.Ytfkepplpeakgmaa
