/- Contracts (cellaret): squares, products, weights added, the beat; what must come at any rate. -/
import Derived.Test.YtlhcbbcgnkpknaaPhE
namespace Go.Proofs.Ytlhcbbcgnkpknaa
open Go.RowKit
set_option linter.unusedVariables false
attribute [local go_sem] unary_negf run_store_complex run_store_float
attribute [local go_sem ↓] Go.wp_at_zero Go.wp_at_succ

theorem norm_no (a b : Nat) (w : World) (ha : a < 18446744073709551616) (hb : b < 18446744073709551616) (h : (isFin a && isFin b) = false) :
    Calls Try.prog 19 #[.complex .f64 a b] w fun e w' => e = .returned (.tuple #[.float .f64 0, .int .i64 20]) ∧ w = w' := by
  have HC := Lib.hid (counts_any a b w ha hb)
  rw [h] at HC
  clear h
  go_enter Try.func19, Try.ntmps19
  go_wp2_with fail
  refine HC.out.mono ?_
  rintro e w1 ⟨rfl, rfl⟩
  go_wp2
  go_ret2
  exact ⟨rfl, rfl⟩
theorem norm_ok (a b : Nat) (w : World) (ha : a < 18446744073709551616) (hb : b < 18446744073709551616) (h : (isFin a && isFin b) = true) :
    Calls Try.prog 19 #[.complex .f64 a b] w fun e w' => ∃ p q r n, e = .returned (.tuple #[.float .f64 r, .int .i64 0]) ∧ FAns (fmul a a) p ∧ FAns (fmul b b) q ∧ FAns (fadd p q) r ∧ w.drewN n = w' := by
  have HC := Lib.hid (counts_any a b w ha hb)
  rw [h] at HC
  clear h
  go_enter Try.func19, Try.ntmps19
  go_wp2_with fail
  refine HC.out.mono ?_
  rintro e w1 ⟨rfl, rfl⟩
  go_wp2_with fail
  refine (times_any a a _).mono ?_
  rintro e w1 ⟨p, d1, rfl, hp, rfl⟩
  go_wp2_with fail
  refine (times_any b b _).mono ?_
  rintro e w1 ⟨q, d2, rfl, hq, rfl⟩
  obtain ⟨r, d3, hr, hrun⟩ := arith_run .add 22 p q ((w.drewN d1).drewN d2) (by simp)
  have HR := Lib.hid hr
  have HP := Lib.hid hp
  have HQ := Lib.hid hq
  rw [World.drewN_drewN] at hrun
  try rw [World.drewN_drewN]
  clear hr hp hq
  go_wp2
  go_ret2
  exact ⟨p, q, r, d1 + d2 + d3, rfl, HP.out, HQ.out, HR.out, by first | rfl | simp [World.drewN_drewN]⟩
theorem norm_int (a b : Int) (w : World) (ha : a.natAbs ≤ 16777216) (hb : b.natAbs ≤ 16777216) :
    Calls Try.prog 19 #[.complex .f64 (fi a) (fi b)] w fun e w' => e = .returned (.tuple #[.float .f64 (fi (a * a + b * b)), .int .i64 0]) ∧ ∃ n, w.drewN n = w' := by
  have sq : ∀ x : Int, x.natAbs ≤ 16777216 → (x * x).natAbs ≤ 281474976710656 := fun x hx => by
    rw [Int.natAbs_mul]
    exact Nat.mul_le_mul hx hx
  have mm : ∀ x : Int, x.natAbs ≤ 16777216 → fmul (fi x) (fi x) = some (fi (x * x)) := fun x hx => mul_fi_fi (by omega) (by omega) (by have := sq x hx; omega) (fun _ => by simp)
  have s1 := sq a ha
  have s2 := sq b hb
  refine (norm_ok (fi a) (fi b) w (fi_lt (by omega)) (fi_lt (by omega)) (by rw [fi_fin (by omega), fi_fin (by omega)]; rfl)).mono ?_
  rintro e w' ⟨p, q, r, n, rfl, hp, hq, hr, rfl⟩
  have e1 := hp.of (mm a ha)
  have e2 := hq.of (mm b hb)
  subst e1
  subst e2
  have hl : (a * a + b * b).natAbs < 9007199254740992 := by
    have := Int.natAbs_add_le (a * a) (b * b)
    omega
  have e3 := hr.of (v := fi (a * a + b * b)) (add_fi (by omega) hl (fi_Val (by omega)))
  subst e3
  exact ⟨rfl, n, rfl⟩
theorem mul_no (a b c d : Nat) (w : World) (ha : a < 18446744073709551616) (hb : b < 18446744073709551616) (hc : c < 18446744073709551616) (hd : d < 18446744073709551616) (h : ((isFin a && isFin b) && (isFin c && isFin d)) = false) :
    Calls Try.prog 18 #[.complex .f64 a b, .complex .f64 c d] w fun e w' => e = .returned (.tuple #[.complex .f64 0 0, .int .i64 20]) ∧ w = w' := by
  have HC := Lib.hid (counts_any a b w ha hb)
  have HD := Lib.hid (counts_any c d w hc hd)
  cases h1 : (isFin a && isFin b)
  · rw [h1] at HC
    clear h h1
    go_enter Try.func18, Try.ntmps18
    go_wp2_with fail
    refine HC.out.mono ?_
    rintro e w1 ⟨rfl, rfl⟩
    go_wp2
    go_ret2
    exact ⟨rfl, rfl⟩
  · rw [h1, Bool.true_and] at h
    rw [h1] at HC
    rw [h] at HD
    clear h h1
    go_enter Try.func18, Try.ntmps18
    go_wp2_with fail
    refine HC.out.mono ?_
    rintro e w1 ⟨rfl, rfl⟩
    go_wp2_with fail
    refine HD.out.mono ?_
    rintro e w1 ⟨rfl, rfl⟩
    go_wp2
    go_ret2
    exact ⟨rfl, rfl⟩
theorem mul_ok (a b c d : Nat) (w : World) (ha : a < 18446744073709551616) (hb : b < 18446744073709551616) (hc : c < 18446744073709551616) (hd : d < 18446744073709551616) (h1 : (isFin a && isFin b) = true) (h2 : (isFin c && isFin d) = true) :
    Calls Try.prog 18 #[.complex .f64 a b, .complex .f64 c d] w fun e w' => ∃ p q r s x y n, e = .returned (.tuple #[.complex .f64 x y, .int .i64 0]) ∧ FAns (fmul a c) p ∧ FAns (fmul b d) q ∧ FAns (fsub p q) x ∧ FAns (fmul a d) r ∧ FAns (fmul b c) s ∧ FAns (fadd r s) y ∧ w.drewN n = w' := by
  have HC := Lib.hid (counts_any a b w ha hb)
  have HD := Lib.hid (counts_any c d w hc hd)
  rw [h1] at HC
  rw [h2] at HD
  clear h1 h2
  go_enter Try.func18, Try.ntmps18
  go_wp2_with fail
  refine HC.out.mono ?_
  rintro e w1 ⟨rfl, rfl⟩
  go_wp2_with fail
  refine HD.out.mono ?_
  rintro e w1 ⟨rfl, rfl⟩
  go_wp2_with fail
  refine (times_any a c _).mono ?_
  rintro e w1 ⟨p, d1, rfl, hp, rfl⟩
  go_wp2_with fail
  refine (times_any b d _).mono ?_
  rintro e w1 ⟨q, d2, rfl, hq, rfl⟩
  obtain ⟨x, d3, hx, hrun⟩ := arith_run .sub 22 p q (w.drewN (d1 + d2)) (by simp)
  have HX := Lib.hid hx
  have HP := Lib.hid hp
  have HQ := Lib.hid hq
  clear hx hp hq
  go_wp2_with fail
  refine (times_any a d _).mono ?_
  rintro e w1 ⟨r, d4, rfl, hr, rfl⟩
  go_wp2_with fail
  refine (times_any b c _).mono ?_
  rintro e w1 ⟨s, d5, rfl, hs, rfl⟩
  obtain ⟨y, d6, hy, hrun2⟩ := arith_run .add 22 r s (w.drewN (d1 + d2 + d3 + d4 + d5)) (by simp)
  have HY := Lib.hid hy
  have HR := Lib.hid hr
  have HS := Lib.hid hs
  clear hy hr hs
  go_wp2
  go_ret2
  exact ⟨p, q, r, s, x, y, d1 + d2 + d3 + d4 + d5 + d6, rfl, HP.out, HQ.out, HX.out, HR.out, HS.out, HY.out, by first | rfl | simp [World.drewN_drewN]⟩
theorem add_no1 (a b : Nat) (at_ n : Int) (w : World) (ha : a < 18446744073709551616) (hb : b < 18446744073709551616) (h : (isFin a && isFin b) = false) :
    Calls Try.prog 17 #[.complex .f64 a b, .int .i64 at_, .int .i64 n] w fun e w' => e = .returned (.tuple #[.complex .f64 0 0, .int .i64 20]) ∧ w = w' := by
  have HC := Lib.hid (counts_any a b w ha hb)
  rw [h] at HC
  clear h
  go_enter Try.func17, Try.ntmps17
  go_wp2_with fail
  refine HC.out.mono ?_
  rintro e w1 ⟨rfl, rfl⟩
  go_wp2
  go_ret2
  exact ⟨rfl, rfl⟩
theorem add_no2 (a b : Nat) (at_ n : Int) (w : World) (ha : a < 18446744073709551616) (hb : b < 18446744073709551616) (h : (isFin a && isFin b) = true) (hn : decide (0 ≤ n ∧ n ≤ 1048576) = false) :
    Calls Try.prog 17 #[.complex .f64 a b, .int .i64 at_, .int .i64 n] w fun e w' => e = .returned (.tuple #[.complex .f64 0 0, .int .i64 2]) ∧ w = w' := by
  have HC := Lib.hid (counts_any a b w ha hb)
  have HN := Lib.hid (isCount_any n w)
  rw [h] at HC
  rw [hn] at HN
  clear h hn
  go_enter Try.func17, Try.ntmps17
  go_wp2_with fail
  refine HC.out.mono ?_
  rintro e w1 ⟨rfl, rfl⟩
  go_wp2_with fail
  refine HN.out.mono ?_
  rintro e w1 ⟨rfl, rfl⟩
  go_wp2
  go_ret2
  exact ⟨rfl, rfl⟩
theorem add_ok (a b : Nat) (at_ n : Int) (q : Nat) (w : World) (ha : a < 18446744073709551616) (hb : b < 18446744073709551616) (h : (isFin a && isFin b) = true) (hn : decide (0 ≤ n ∧ n ≤ 1048576) = true) (hq : at_ % 4 = (q : Int)) (hat : -9223372036854775808 ≤ at_ ∧ at_ ≤ 9223372036854775807) :
    Calls Try.prog 17 #[.complex .f64 a b, .int .i64 at_, .int .i64 n] w fun e w' => ∃ r s, e = .returned (.tuple #[.complex .f64 r s, .int .i64 0]) ∧ FAns (fadd a (turnF q (fi n, 0)).1) r ∧ FAns (fadd b (turnF q (fi n, 0)).2) s ∧ Below w.heap.size w w' := by
  have HC := Lib.hid (counts_any a b w ha hb)
  have HN := Lib.hid (isCount_any n w)
  have HT := Lib.hid (turn_exact (fi n) 0 at_ w q hq hat)
  rw [h] at HC
  rw [hn] at HN
  clear h hn hq
  go_enter Try.func17, Try.ntmps17
  go_wp2_with fail
  refine HC.out.mono ?_
  rintro e w1 ⟨rfl, rfl⟩
  go_wp2_with fail
  refine HN.out.mono ?_
  rintro e w1 ⟨rfl, rfl⟩
  go_wp2_with fail
  refine HT.out.mono ?_
  rintro e w1 ⟨rfl, rfl⟩
  go_wp2_with fail
  refine (sum_any _ _ _ _ _).mono ?_
  rintro e w1 ⟨r, s, m, rfl, hr, hs, rfl⟩
  have HR := Lib.hid hr
  have HS := Lib.hid hs
  clear hr hs
  go_wp2
  go_ret2
  exact ⟨r, s, rfl, HR.out, HS.out, below_drewN ((Below.refl _ _).alloc (Nat.le_refl _) _) m⟩
end Go.Proofs.Ytlhcbbcgnkpknaa
