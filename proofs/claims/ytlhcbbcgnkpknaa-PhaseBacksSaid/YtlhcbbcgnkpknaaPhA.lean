/- Contracts of package phase (cellaret): what is no number or infinite, turns, sameness. -/
import Derived.Test.YtlhcbbcgnkpknaaProg
import Derived.Test.YtlhcbbcgnkpknaaPhM
import Derived.WalkKit
import Derived.WalkLawsBesides
import Derived.Handy
import Derived.Lib.Hide
import Derived.Laws.Externs
import Derived.Laws.Cover3
import Derived.IntWalk
import Derived.RegionTactic
import Derived.Deep.QuietTactic
import Derived.BigQuiet
import Derived.Outline
namespace Go.Proofs.Ytlhcbbcgnkpknaa
open Go.RowKit
set_option linter.unusedVariables false

theorem unary_negf (b : Nat) : Op.unary .neg (.float .f64 b) = pure (.float .f64 (fneg b)) := rfl
attribute [local go_sem] unary_negf
theorem bits_run (a : Nat) (w : World) : (callFunc 37 #[.float .f64 a]).run Try.prog w = .ok (.value (.int .u64 a)) w :=
  (run_callFunc_extern (P := Try.prog) (f := 37) (fn := Try.f37) (e := Extern.MathFloatBits.float64bits) Try.func37 (by kernel_rfl) (by kernel_rfl) (by kernel_rfl) (by kernel_rfl) _ w).trans rfl
theorem frombits_run (a : Int) (w : World) : (callFunc 39 #[.int .u64 a]).run Try.prog w = .ok (.value (.float .f64 a.toNat)) w :=
  (run_callFunc_extern (P := Try.prog) (f := 39) (fn := Try.f39) (e := Extern.MathFloatBits.float64frombits) Try.func39 (by kernel_rfl) (by kernel_rfl) (by kernel_rfl) (by kernel_rfl) _ w).trans rfl
theorem order_b (a : Nat) : (FloatKind.f64.format.order a a != some Ordering.eq) = isNan a := by
  show (Ieee.double.order a a != some .eq) = _
  cases h : isNan a
  · rw [order_self h]; rfl
  · rw [order_nan_l a h]; rfl
theorem isNaN_any (a : Nat) (w : World) : Calls Try.prog 35 #[.float .f64 a] w fun e w' => e = .returned (.bool (isNan a)) ∧ w = w' := by
  have h := order_b a
  go_enter Try.func35, Try.ntmps35
  go_wp2
  go_ret
  exact ⟨rfl, rfl⟩
theorem clear_top (a : Nat) (h : a < 18446744073709551616) : bits BinOp.andNot .u64 (a : Int) 9223372036854775808 = ((rung a : Nat) : Int) := by
  have h1 : (BitVec.ofInt 64 (a : Int)).toNat = a := by
    rw [BitVec.ofInt_natCast, BitVec.toNat_ofNat]; exact Nat.mod_eq_of_lt (by omega)
  have h2 : (~~~ (BitVec.ofInt 64 9223372036854775808)).toNat = 2 ^ 63 - 1 := by decide +kernel
  show IntKind.u64.wrap ((BitVec.ofInt 64 (a : Int) &&& ~~~ (BitVec.ofInt 64 9223372036854775808)).toNat : Int) = _
  rw [BitVec.toNat_and, h1, h2, Nat.and_two_pow_sub_one_eq_mod]
  have e : a % 2 ^ 63 = rung a := rfl
  rw [e]
  have : rung a < 9223372036854775808 := Nat.mod_lt _ (by omega)
  simp [IntKind.wrap, IntKind.bits, IntKind.signed]
  omega
theorem abs_any (a : Nat) (w : World) (ha : a < 18446744073709551616) : Calls Try.prog 38 #[.float .f64 a] w fun e w' => e = .returned (.float .f64 (rung a)) ∧ w = w' := by
  have h := bits_run
  have h2 := frombits_run
  have h3 := clear_top a ha
  go_enter Try.func38, Try.ntmps38
  go_wp2
  go_ret
  exact ⟨rfl, rfl⟩
theorem isInf_any (a : Nat) (w : World) (ha : a < 18446744073709551616) (h : isNan a = false) : Calls Try.prog 36 #[.float .f64 a, .int .i64 0] w fun e w' => e = .returned (.bool (!isFin a)) ∧ w = w' := by
  have h1 : (FloatKind.f64.format.order (rung a) 9218868437227405311 == some .gt) = !isFin a := order_max h
  go_enter Try.func36, Try.ntmps36
  go_wp2_with fail
  refine (abs_any a _ ha).mono ?_
  rintro e w1 ⟨rfl, rfl⟩
  go_wp2
  go_ret
  exact ⟨rfl, rfl⟩
theorem finite_any (a : Nat) (w : World) (ha : a < 18446744073709551616) : Calls Try.prog 27 #[.float .f64 a] w fun e w' => e = .returned (.bool (isFin a)) ∧ w = w' := by
  cases h : isNan a
  · have H := Lib.hid h
    have HI := Lib.hid (fun w => isInf_any a w ha h)
    have HN := Lib.hid (fun w => isNaN_any a w)
    rw [h] at HN
    clear h
    go_enter Try.func27, Try.ntmps27
    go_wp2_with fail
    refine (HN.out _).mono ?_
    rintro e w1 ⟨rfl, rfl⟩
    go_wp2_with fail
    refine (HI.out _).mono ?_
    rintro e w1 ⟨rfl, rfl⟩
    go_wp2
    go_ret
    exact ⟨by simp, rfl⟩
  · have HN := Lib.hid (fun w => isNaN_any a w)
    have hF := Lib.hid (not_fin_of_nan h)
    rw [h] at HN
    clear h
    go_enter Try.func27, Try.ntmps27
    go_wp2_with fail
    refine (HN.out _).mono ?_
    rintro e w1 ⟨rfl, rfl⟩
    go_wp2
    go_ret
    exact ⟨by rw [hF.out]; rfl, rfl⟩
theorem counts_any (a b : Nat) (w : World) (ha : a < 18446744073709551616) (hb : b < 18446744073709551616) : Calls Try.prog 12 #[.complex .f64 a b] w fun e w' => e = .returned (.bool (isFin a && isFin b)) ∧ w = w' := by
  have H1 := Lib.hid (fun w => finite_any a w ha)
  have H2 := Lib.hid (fun w => finite_any b w hb)
  cases h : isFin a
  all_goals
    rw [h] at H1
    clear h
    go_enter Try.func12, Try.ntmps12
    go_wp2_with fail
    refine (H1.out _).mono ?_
    rintro e w1 ⟨rfl, rfl⟩
    go_wp2_with fail
  · go_ret
    exact ⟨rfl, rfl⟩
  · refine (H2.out _).mono ?_
    rintro e w1 ⟨rfl, rfl⟩
    go_wp2
    go_ret
    exact ⟨by simp, rfl⟩
/-- A phase turned by so many quarters. -/
def turnF : Nat → Nat × Nat → Nat × Nat
  | 0, z => z
  | n + 1, z => (fneg (turnF n z).2, (turnF n z).1)
theorem turnF_lt (n : Nat) (z : Nat × Nat) (h1 : z.1 < 18446744073709551616) (h2 : z.2 < 18446744073709551616) : (turnF n z).1 < 18446744073709551616 ∧ (turnF n z).2 < 18446744073709551616 := by
  induction n with
  | zero => exact ⟨h1, h2⟩
  | succ n ih => exact ⟨fneg_lt ih.2, ih.1⟩
theorem turner1_any (a b n g : Nat) (w : World) (hn : n < 4) (hc : w.cell? ⟨g, 0, none⟩ = some (.int .i64 n)) :
    Calls Try.prog 34 #[.complex .f64 a b, .pointer (some ⟨g, 0, none⟩)] w fun e w' => e = .returned (.complex .f64 (turnF n (a, b)).1 (turnF n (a, b)).2) ∧ w = w' := by

  go_enter Try.func34, Try.ntmps34
  go_wp2
  go_loop [0, 5] (fun z x => ∃ i : Nat, x = .int .i64 i ∧ i ≤ n ∧ z = .complex .f64 (turnF i (a, b)).1 (turnF i (a, b)).2) (fun _ x => n - (intOf x).toNat)
  case atStart => exact ⟨0, rfl, by omega, rfl⟩
  case round =>
    obtain ⟨i, rfl, hi, rfl⟩ := hrel
    by_cases hlt : i < n
    · go_wp2
      go_round
      case rel => exact ⟨i + 1, by go_num, by omega, rfl⟩
      case measure => simp [intOf]; omega
    · obtain rfl : i = n := by omega
      go_wp2
      go_ret
      exact ⟨rfl, rfl⟩
theorem tmod4 (n : Int) : -3 ≤ n.tmod 4 ∧ n.tmod 4 ≤ 3 ∧ (n.tmod 4 + 4) % 4 = n % 4 := by
  rw [Int.tmod_eq_emod]
  split <;> omega
theorem turner_any (n : Int) (w : World) (q : Nat) (hq : n % 4 = (q : Int)) (hn : -9223372036854775808 ≤ n ∧ n ≤ 9223372036854775807) :
    Calls Try.prog 26 #[.int .i64 n] w fun e w' => e = .returned (.func (.func 34) #[] #[.pointer (some ⟨w.heap.size, 0, none⟩)]) ∧ w.alloc (.cells #[.int .i64 q] 3) = w' := by
  obtain ⟨h1, h2, h3⟩ := tmod4 n
  rw [hq] at h3
  have hq4 : q < 4 := by omega
  clear hq
  go_enter Try.func26, Try.ntmps26
  go_wp2
  go_ret
  exact ⟨rfl, rfl⟩
theorem turn_any (a b : Nat) (n : Int) (w : World) (q : Nat) (hq : n % 4 = (q : Int)) (hn : -9223372036854775808 ≤ n ∧ n ≤ 9223372036854775807) :
    Calls Try.prog 11 #[.complex .f64 a b, .int .i64 n] w fun e w' => e = .returned (.complex .f64 (turnF q (a, b)).1 (turnF q (a, b)).2) ∧ Below w.heap.size w w' := by
  have hq4 : q < 4 := by omega
  have HQ := Lib.hid (turner_any n w q hq hn)
  have HT := Lib.hid (turner1_any a b q w.heap.size (w.alloc (.cells #[.int .i64 q] 3)) hq4 (by simp))
  clear hq
  go_enter Try.func11, Try.ntmps11
  go_wp2_with fail
  refine HQ.out.mono ?_
  rintro e w1 ⟨rfl, rfl⟩
  go_wp2_with fail
  refine HT.out.mono ?_
  rintro e w1 ⟨rfl, rfl⟩
  go_wp2
  go_ret
  exact ⟨rfl, (Below.refl _ _).alloc (Nat.le_refl _) _⟩
/-- Two phases the same, part by part. -/
theorem sameFloat_any (a b : Nat) (w : World) (ha : a < 18446744073709551616) (hb : b < 18446744073709551616) :
    Calls Try.prog 29 #[.float .f64 a, .float .f64 b] w fun e w' => e = .returned (.bool (sameF a b)) ∧ w = w' := by
  have h1 := bits_run
  by_cases hab : a = b
  · subst hab
    have HS := Lib.hid (sameF_self a)
    go_enter Try.func29, Try.ntmps29
    go_wp2
    go_ret
    exact ⟨by rw [HS.out]; rfl, rfl⟩
  · have hne : ((a : Int) == (b : Int)) = false := by simp; omega
    have HS : Hid (sameF a b = (isNan a && isNan b)) := Lib.hid (by unfold sameF; simp [hab])
    have HA := Lib.hid (fun w => isNaN_any a w)
    have HB := Lib.hid (fun w => isNaN_any b w)
    clear hab
    cases hna : isNan a
    all_goals
      rw [hna] at HS HA
      clear hna
      go_enter Try.func29, Try.ntmps29
      go_wp2_with fail
      refine (HA.out _).mono ?_
      rintro e w1 ⟨rfl, rfl⟩
      go_wp2_with fail
    · go_ret
      exact ⟨by rw [HS.out]; rfl, rfl⟩
    · refine (HB.out _).mono ?_
      rintro e w1 ⟨rfl, rfl⟩
      go_wp2
      go_ret
      exact ⟨by rw [HS.out]; simp, rfl⟩
theorem same_any (a b c d : Nat) (w : World) (ha : a < 18446744073709551616) (hb : b < 18446744073709551616) (hc : c < 18446744073709551616) (hd : d < 18446744073709551616) :
    Calls Try.prog 14 #[.complex .f64 a b, .complex .f64 c d] w fun e w' => e = .returned (.bool (sameF a c && sameF b d)) ∧ w = w' := by
  have H1 := Lib.hid (fun w => sameFloat_any a c w ha hc)
  have H2 := Lib.hid (fun w => sameFloat_any b d w hb hd)
  cases h : sameF a c
  all_goals
    rw [h] at H1
    clear h
    go_enter Try.func14, Try.ntmps14
    go_wp2_with fail
    refine (H1.out _).mono ?_
    rintro e w1 ⟨rfl, rfl⟩
    go_wp2_with fail
  · go_ret
    exact ⟨rfl, rfl⟩
  · refine (H2.out _).mono ?_
    rintro e w1 ⟨rfl, rfl⟩
    go_wp2
    go_ret
    exact ⟨by simp, rfl⟩
/-- A sum, a product .. that has no answer: some float that is no number. -/
theorem arith_nan (op : BinOp) (t : TypeId) (a b : Nat) (w : World) (hop : op = .add ∨ op = .sub ∨ op = .mul ∨ op = .quo) (h : floatBits op .f64 a b = none) : ∃ r, isNan r = true ∧ r < 18446744073709551616 ∧ (binOp op t (.float .f64 a) (.float .f64 b)).run Try.prog w = .ok (.float .f64 r) w.drew := by
  have key : (binOp op t (.float .f64 a) (.float .f64 b)).run Try.prog w = .ok (.float .f64 ((w.tape w.drawn (.nanBits .f64 a b)) % 2 * 2 ^ 63 + 0x7ff0000000000000 + 1 + (w.tape w.drawn (.nanBits .f64 a b)) / 2 % (2 ^ 52 - 1))) w.drew := by
    unfold floatBits at h
    rcases hop with rfl | rfl | rfl | rfl <;> simp only at h <;> simp [binOp, Op.floatArith, h, go_sem] <;> rfl
  clear h
  generalize w.tape w.drawn (.nanBits .f64 a b) = T at key
  have u1 : T / 2 % (2 ^ 52 - 1) < 4503599627370495 := Nat.mod_lt _ (by decide)
  have u2 : T % 2 < 2 := Nat.mod_lt _ (by decide)
  generalize T / 2 % (2 ^ 52 - 1) = u at key u1
  generalize T % 2 = s at key u2
  refine ⟨_, ?_, ?_, key⟩
  · unfold isNan rung
    rw [decide_eq_true_eq]
    omega
  · omega
theorem float_wf {a : Nat} (h : (Lit.float .f64 a).wf = true) : a < 18446744073709551616 := by simpa [Lit.wf] using h
theorem number_any (a : Nat) (w : World) (ha : a < 18446744073709551616) : Calls Try.prog 28 #[.float .f64 a] w fun e w' => e = .returned (.bool (isFin a)) ∧ ∃ d, w' = w.drewN d := by
  cases h : isFin a
  · have hs : floatBits .sub .f64 a a = none := by
      rcases kinds a with h1 | h1 | h1
      · exact sub_self_nan h1
      · exact sub_self_inf h1
      · rw [h1] at h; cases h
    obtain ⟨r, hr, hl, hrun⟩ := arith_nan .sub 22 a a w (by simp) hs
    have ho : (FloatKind.f64.format.order r 0 == some Ordering.eq) = false := by
      show (Ieee.double.order r 0 == some .eq) = false
      rw [order_nan_l 0 hr]; rfl
    clear hs hr h
    go_enter Try.func28, Try.ntmps28
    go_wp2
    go_ret
    exact ⟨rfl, 1, rfl⟩
  · have hrun := fun w => run_float_arith (P := Try.prog) w .sub 22 .f64 a a 0 (sub_self_fin h)
    have ho : (FloatKind.f64.format.order 0 0 == some Ordering.eq) = true := by decide +kernel
    clear h
    go_enter Try.func28, Try.ntmps28
    go_wp2
    go_ret
    exact ⟨rfl, 0, rfl⟩
end Go.Proofs.Ytlhcbbcgnkpknaa
