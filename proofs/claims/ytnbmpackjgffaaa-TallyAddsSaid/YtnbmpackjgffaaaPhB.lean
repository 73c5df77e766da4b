/- Contracts (cellaret): the reference of phases: the same floats, turns, quarters. -/
import Derived.Test.YtnbmpackjgffaaaPhA
namespace Go.Proofs.Ytnbmpackjgffaaa
open Go.RowKit
set_option linter.unusedVariables false
attribute [local go_sem] unary_negf

theorem order_one_zero : (FloatKind.f64.format.order 0 0 == some Ordering.eq) = true := by decide +kernel
theorem quo_zero : floatBits .quo .f64 4607182418800017408 0 = some 9218868437227405312 ∧ floatBits .quo .f64 4607182418800017408 9223372036854775808 = some 18442240474082181120 := by decide +kernel
theorem nan_neq {a : Nat} (h : isNan a = true) : (FloatKind.f64.format.order a a != some Ordering.eq) = true := by rw [order_b, h]
theorem num_neq {a : Nat} (h : isNan a = false) : (FloatKind.f64.format.order a a != some Ordering.eq) = false := by rw [order_b, h]
theorem order_z {a : Nat} (hal : a < 18446744073709551616) : (FloatKind.f64.format.order a 0 != some Ordering.eq) = !decide (rung a = 0) := by
  have := order_zero hal
  show (Ieee.double.order a 0 != some .eq) = _
  rw [← this]; rfl
theorem float_nan (a b : Nat) (w : World) (ha : a < 18446744073709551616) (hb : b < 18446744073709551616) (h : isNan a = true ∨ isNan b = true) :
    Calls Try.prog 24 #[.float .f64 a, .float .f64 b] w fun e w' => e = .returned (.bool (sameF a b)) ∧ w = w' := by
  have HS : Hid (sameF a b = (isNan a && isNan b)) := Lib.hid (by
    unfold sameF
    by_cases e : a = b
    · subst e
      rcases h with h | h <;> simp [h]
    · simp [e])
  cases h1 : isNan a <;> cases h2 : isNan b
  · rw [h1, h2] at h; simp at h
  all_goals
    have n1 := order_b a
    have n2 := order_b b
    rw [h1] at n1
    rw [h2] at n2
    rw [h1, h2] at HS
    clear h h1 h2
    go_enter Try.func24, Try.ntmps24
    go_wp2
    go_ret
    exact ⟨by rw [HS.out]; rfl, rfl⟩
theorem float_num (a b : Nat) (w : World) (ha : a < 18446744073709551616) (hb : b < 18446744073709551616) (h1 : isNan a = false) (h2 : isNan b = false) :
    Calls Try.prog 24 #[.float .f64 a, .float .f64 b] w fun e w' => e = .returned (.bool (sameF a b)) ∧ w = w' := by
  have n1 := order_b a
  have n2 := order_b b
  rw [h1] at n1
  rw [h2] at n2
  have HS : Hid (sameF a b = decide (a = b)) := Lib.hid (by unfold sameF; simp [h1])
  by_cases hz : rung a = 0 ∧ rung b = 0
  · have q1 := fun w => run_float_arith (P := Try.prog) w .quo 35 .f64 4607182418800017408 0 _ quo_zero.1
    have q2 := fun w => run_float_arith (P := Try.prog) w .quo 35 .f64 4607182418800017408 9223372036854775808 _ quo_zero.2
    have o1 : (FloatKind.f64.format.order 0 0 == some Ordering.eq) = true := by decide +kernel
    have o2 : (FloatKind.f64.format.order 0 9223372036854775808 == some Ordering.eq) = true := by decide +kernel
    have o3 : (FloatKind.f64.format.order 9223372036854775808 0 == some Ordering.eq) = true := by decide +kernel
    have o4 : (FloatKind.f64.format.order 9223372036854775808 9223372036854775808 == some Ordering.eq) = true := by decide +kernel
    have p1 : (FloatKind.f64.format.order 0 0 != some Ordering.eq) = false := by decide +kernel
    have p3 : (FloatKind.f64.format.order 9223372036854775808 0 != some Ordering.eq) = false := by decide +kernel
    have i1 : (FloatKind.f64.format.order 9218868437227405312 9218868437227405312 == some Ordering.eq) = true := by decide +kernel
    have i2 : (FloatKind.f64.format.order 9218868437227405312 18442240474082181120 == some Ordering.eq) = false := by decide +kernel
    have i3 : (FloatKind.f64.format.order 18442240474082181120 9218868437227405312 == some Ordering.eq) = false := by decide +kernel
    have i4 : (FloatKind.f64.format.order 18442240474082181120 18442240474082181120 == some Ordering.eq) = true := by decide +kernel
    rcases zero_bits ha hz.1 with rfl | rfl <;> rcases zero_bits hb hz.2 with rfl | rfl
    all_goals
      clear hz ha hb h1 h2
      go_enter Try.func24, Try.ntmps24
      go_wp2
      go_ret
      exact ⟨by rw [HS.out]; rfl, rfl⟩
  by_cases hab : a = b
  · subst hab
    have o1 : (FloatKind.f64.format.order a a == some Ordering.eq) = true := by
      show (Ieee.double.order a a == some .eq) = true
      rw [order_self h1]; rfl
    have o2 := order_z ha
    rw [decide_eq_false (by omega)] at o2
    clear hz h1 h2 ha hb n2
    go_enter Try.func24, Try.ntmps24
    go_wp2
    go_ret
    exact ⟨by rw [HS.out]; simp, rfl⟩
  · have o1 : (FloatKind.f64.format.order a b == some Ordering.eq) = false := by
      cases hh : (FloatKind.f64.format.order a b == some Ordering.eq)
      · rfl
      · exfalso
        have h3 : FloatKind.f64.format.order a b = some .eq := by simpa using hh
        rcases order_eq ha hb h3 with h | h
        · exact hab h
        · exact hz h
    have HS2 : Hid (sameF a b = false) := Lib.hid (by rw [HS.out]; simp [hab])
    clear hz h1 h2 ha hb HS hab
    go_enter Try.func24, Try.ntmps24
    go_wp2
    go_ret
    exact ⟨by rw [HS2.out]; rfl, rfl⟩
theorem float_any (a b : Nat) (w : World) (ha : a < 18446744073709551616) (hb : b < 18446744073709551616) :
    Calls Try.prog 24 #[.float .f64 a, .float .f64 b] w fun e w' => e = .returned (.bool (sameF a b)) ∧ w = w' := by
  cases h1 : isNan a
  · cases h2 : isNan b
    · exact float_num a b w ha hb h1 h2
    · exact float_nan a b w ha hb (.inr h2)
  · exact float_nan a b w ha hb (.inl h1)
theorem rsame_any (a b c d : Nat) (w : World) (ha : a < 18446744073709551616) (hb : b < 18446744073709551616) (hc : c < 18446744073709551616) (hd : d < 18446744073709551616) :
    Calls Try.prog 19 #[.float .f64 a, .float .f64 b, .float .f64 c, .float .f64 d] w fun e w' => e = .returned (.bool (sameF a c && sameF b d)) ∧ w = w' := by
  have H1 := Lib.hid (fun w => float_any a c w ha hc)
  have H2 := Lib.hid (fun w => float_any b d w hb hd)
  cases h : sameF a c
  all_goals
    rw [h] at H1
    clear h
    go_enter Try.func19, Try.ntmps19
    go_wp2_with fail
    refine (H1.out _).mono ?_
    rintro e w1 ⟨rfl, rfl⟩
    go_wp2_with fail
  · go_ret
    exact ⟨rfl, rfl⟩
  · refine (H2.out _).mono ?_
    rintro e w1 ⟨rfl, rfl⟩
    go_wp2
    go_ret
    exact ⟨by simp, rfl⟩
theorem quarters_any (n : Int) (w : World) (q : Nat) (hq : n % 4 = (q : Int)) (hn : -9223372036854775808 ≤ n ∧ n ≤ 9223372036854775807) :
    Calls Try.prog 18 #[.int .i64 n] w fun e w' => e = .returned (.int .i64 q) ∧ w = w' := by
  obtain ⟨h1, h2, h3⟩ := tmod4 n
  have h4 : n.tmod 4 = q ∨ n.tmod 4 + 4 = q := by omega
  have hq4 : q < 4 := by omega
  clear hq h3
  generalize hm : n.tmod 4 = m at h1 h2 h4
  have hq0 : (0 : Int) ≤ q := by omega
  by_cases h5 : m < 0
  · obtain rfl : m = (q : Int) - 4 := by omega
    go_enter Try.func18, Try.ntmps18
    go_wp2
    go_ret
    exact ⟨rfl, rfl⟩
  · obtain rfl : m = (q : Int) := by omega
    go_enter Try.func18, Try.ntmps18
    go_wp2
    go_ret
    exact ⟨rfl, rfl⟩
theorem rturn_any (a b q : Nat) (w : World) (hq : q < 4) :
    Calls Try.prog 17 #[.float .f64 a, .float .f64 b, .int .i64 q] w fun e w' => e = .returned (.tuple #[.float .f64 (turnF q (a, b)).1, .float .f64 (turnF q (a, b)).2]) ∧ w = w' := by
  have : q = 0 ∨ q = 1 ∨ q = 2 ∨ q = 3 := by omega
  rcases this with rfl | rfl | rfl | rfl
  all_goals
    go_enter Try.func17, Try.ntmps17
    go_wp2
    go_ret2
    exact ⟨rfl, rfl⟩
end Go.Proofs.Ytnbmpackjgffaaa
