/- The laws of layer 7 (cellaret): PhaseAdds, PhaseMuls. -/
import Derived.Test.YtlhcbbcgnkpknaaPhH
namespace Go.Proofs.Ytlhcbbcgnkpknaa
open Go.RowKit Go.Deep Go.ChangeShapes Go.WideShapes
set_option linter.unusedVariables false
attribute [local go_sem] unary_negf run_store_complex run_store_float

theorem small_abs {n : Int} (h : decide (0 ≤ n ∧ n ≤ 1048576) = true) : n.natAbs < 9007199254740992 := by
  have := of_decide_eq_true h
  omega
set_option maxRecDepth 100000 in
set_option maxHeartbeats 2000000 in
theorem phaseAdds_no1 (x y : Nat) (n k : Int) (w : World) (hx : x < 18446744073709551616) (hy : y < 18446744073709551616) (hc : (isFin x && isFin y) = false) :
    Calls Try.prog 4 #[.agg #[.float .f64 x, .float .f64 y, .int .i64 n, .int .i64 k]] w fun e w' => e = .returned (.bool true) ∧ Below w.heap.size w w' := by
  have HA := Lib.hid (fun w => add_no1 x y n k w hx hy hc)
  have HRC := Lib.hid (fun w => rcounts_any x y w hx hy)
  rw [hc] at HRC
  have HLS := Lib.hid (fun w => lsame_self 0 0 w (by omega) (by omega))
  clear hc
  go_enter Try.func4, Try.ntmps4
  obtain ⟨w0, HE, c0, c1, c2, c3, B0⟩ := box4 (w := w) (T := 38) (.float .f64 x) (.float .f64 y) (.int .i64 n) (.int .i64 k)
  go_wp2
  rw [HE.out]
  clear HE
  go_quiet (fail)
  clear c0 c1 c2 c3
  go_wp2_with fail
  refine (HA.out _).mono ?_
  rintro e w1 ⟨rfl, rfl⟩
  go_wp2_with fail
  refine (HRC.out _).mono ?_
  rintro e w1 ⟨rfl, d1, rfl⟩
  go_wp2_with fail
  refine (awake07 _).mono ?_
  rintro e w7 ⟨rfl, b7⟩
  have B7 := (below_drewN B0 _).trans (b7.mono B0.size)
  go_wp2_with fail
  refine (HLS.out _).mono ?_
  rintro e w2 ⟨rfl, rfl⟩
  go_wp2
  go_ret
  exact ⟨rfl, B7⟩
set_option maxRecDepth 100000 in
set_option maxHeartbeats 2000000 in
theorem phaseAdds_no2 (x y : Nat) (n k : Int) (w : World) (hx : x < 18446744073709551616) (hy : y < 18446744073709551616) (hc : (isFin x && isFin y) = true) (hk : decide (0 ≤ k ∧ k ≤ 1048576) = false) :
    Calls Try.prog 4 #[.agg #[.float .f64 x, .float .f64 y, .int .i64 n, .int .i64 k]] w fun e w' => e = .returned (.bool true) ∧ Below w.heap.size w w' := by
  have HA := Lib.hid (fun w => add_no2 x y n k w hx hy hc hk)
  have HRC := Lib.hid (fun w => rcounts_any x y w hx hy)
  rw [hc] at HRC
  have HLS := Lib.hid (fun w => lsame_self 0 0 w (by omega) (by omega))
  have hk' : k < 0 ∨ (0 ≤ k ∧ 1048576 < k) := by
    have := of_decide_eq_false hk
    omega
  clear hc hk
  rcases hk' with h | ⟨h1, h2⟩
  all_goals
    go_enter Try.func4, Try.ntmps4
    obtain ⟨w0, HE, c0, c1, c2, c3, B0⟩ := box4 (w := w) (T := 38) (.float .f64 x) (.float .f64 y) (.int .i64 n) (.int .i64 k)
    go_wp2
    rw [HE.out]
    clear HE
    go_quiet (fail)
    clear c0 c1 c2 c3
    go_wp2_with fail
    refine (HA.out _).mono ?_
    rintro e w1 ⟨rfl, rfl⟩
    go_wp2_with fail
    refine (HRC.out _).mono ?_
    rintro e w1 ⟨rfl, d1, rfl⟩
    go_wp2_with fail
    refine (awake07 _).mono ?_
    rintro e w7 ⟨rfl, b7⟩
    have B7 := (below_drewN B0 _).trans (b7.mono B0.size)
    go_wp2_with fail
    refine (HLS.out _).mono ?_
    rintro e w2 ⟨rfl, rfl⟩
    go_wp2
    go_ret
    exact ⟨rfl, B7⟩
set_option maxRecDepth 100000 in
set_option maxHeartbeats 2000000 in
theorem phaseAdds_ok (x y q : Nat) (n k : Int) (w : World) (hx : x < 18446744073709551616) (hy : y < 18446744073709551616) (hc : (isFin x && isFin y) = true) (hk : decide (0 ≤ k ∧ k ≤ 1048576) = true) (hq : n % 4 = (q : Int)) (hn : -9223372036854775808 ≤ n ∧ n ≤ 9223372036854775807) :
    Calls Try.prog 4 #[.agg #[.float .f64 x, .float .f64 y, .int .i64 n, .int .i64 k]] w fun e w' => e = .returned (.bool true) ∧ Below w.heap.size w w' := by
  have hq4 : q < 4 := by omega
  have HA := Lib.hid (fun w => add_ok x y n k q w hx hy hc hk hq hn)
  have HRC := Lib.hid (fun w => rcounts_any x y w hx hy)
  rw [hc] at HRC
  have hk' := of_decide_eq_true hk
  obtain ⟨k1, k2⟩ := hk'
  have HQ := Lib.hid (fun w => quarters_any n w q hq hn)
  have HR := Lib.hid (fun w => rturn_any (fi k) 0 q w hq4)
  generalize (turnF q (fi k, 0)).1 = tx at HA HR
  generalize (turnF q (fi k, 0)).2 = ty at HA HR
  clear hc hk hq
  go_enter Try.func4, Try.ntmps4
  obtain ⟨w0, HE, c0, c1, c2, c3, B0⟩ := box4 (w := w) (T := 38) (.float .f64 x) (.float .f64 y) (.int .i64 n) (.int .i64 k)
  go_wp2
  rw [HE.out]
  clear HE
  go_quiet (fail)
  clear c0 c1 c2 c3
  go_wp2_with fail
  refine (HA.out _).mono ?_
  rintro e w1 ⟨r, s, rfl, hr, hs, b1⟩
  have HRr := Lib.hid hr
  have HSs := Lib.hid hs
  have B1 := (below_drewN B0 _).trans (b1.mono B0.size)
  clear hr hs b1
  go_wp2_with fail
  refine (HRC.out _).mono ?_
  rintro e w2 ⟨rfl, d1, rfl⟩
  have B2 := below_drewN B1 d1
  clear B1
  generalize World.drewN w1 d1 = w2 at B2 ⊢
  go_wp2_with fail
  refine (HQ.out _).mono ?_
  rintro e w3 ⟨rfl, rfl⟩
  go_wp2_with fail
  refine (HR.out _).mono ?_
  rintro e w3 ⟨rfl, rfl⟩
  go_wp2_with fail
  refine (awake07 _).mono ?_
  rintro e w7 ⟨rfl, b7⟩
  have B7 := B2.trans (b7.mono B2.size)
  clear b7
  obtain ⟨r2, d2, hr2, run1⟩ := arith_run .add 22 x tx w7 (by simp)
  obtain ⟨s2, d3, hs2, run2⟩ := arith_run .add 22 y ty (w7.drewN d2) (by simp)
  have HS := Lib.hid (fun w => lsame_true r s r2 s2 w HRr.out.lt HSs.out.lt hr2.lt hs2.lt (HRr.out.congr hr2) (HSs.out.congr hs2))
  clear hr2 hs2
  go_wp2_with fail
  refine (HS.out _).mono ?_
  rintro e w3 ⟨rfl, rfl⟩
  go_wp2
  go_ret
  exact ⟨rfl, by first | exact below_drewN (below_drewN B7 d2) d3 | exact below_drewN B7 _⟩
theorem phaseAdds_walk {H : Type} {enc : TypeId × Value → H} {r : Reach} {b0 : Nat} (v : Value) (d : DataW H) (p : List MemPlace) (w : World)
    (hok : Value.okWide Try.prog w r b0 38 v) (h : DataW.Trod enc Try.prog w 0 (fun _ => true) true 38 v d p) :
    Calls Try.prog 4 #[v] w fun e w' => e = .returned (.bool true) ∧ Below w.heap.size w w' := by
  obtain ⟨x, y, n, k, rfl, hx, hy, hn, hk⟩ := open_four hok h
  cases hc : (isFin x && isFin y)
  · exact phaseAdds_no1 x y n k w hx hy hc
  · cases hd : decide (0 ≤ k ∧ k ≤ 1048576)
    · exact phaseAdds_no2 x y n k w hx hy hc hd
    · exact phaseAdds_ok x y (n % 4).toNat n k w hx hy hc hd (by omega) (bounds_i64 hn)

set_option maxRecDepth 100000 in
set_option maxHeartbeats 2000000 in
theorem phaseMuls_no1 (x y u v : Nat) (n : Int) (w : World) (hx : x < 18446744073709551616) (hy : y < 18446744073709551616) (hu : u < 18446744073709551616) (hv : v < 18446744073709551616) (hc : (isFin x && isFin y) = false) :
    Calls Try.prog 5 #[.agg #[.float .f64 x, .float .f64 y, .int .i64 n, .float .f64 u, .float .f64 v]] w fun e w' => e = .returned (.bool true) ∧ Below w.heap.size w w' := by
  have HA := Lib.hid (fun w => mul_no x y u v w hx hy hu hv (by rw [hc]; rfl))
  have HN := Lib.hid (fun w => norm_no x y w hx hy hc)
  have HRC := Lib.hid (fun w => rcounts_any x y w hx hy)
  rw [hc] at HRC
  have HLS := Lib.hid (fun w => lsame_self 0 0 w (by omega) (by omega))
  have o2 : (FloatKind.f64.format.order 0 0 == some Ordering.eq) = true := by decide +kernel
  clear hc
  go_enter Try.func5, Try.ntmps5
  obtain ⟨w0, HE, c0, c1, c2, c3, c4, B0⟩ := box5 (w := w) (T := 24) (.float .f64 x) (.float .f64 y) (.int .i64 n) (.float .f64 u) (.float .f64 v)
  go_wp2
  rw [HE.out]
  clear HE
  go_quiet (fail)
  clear c0 c1 c2 c3 c4
  go_wp2_with fail
  refine (HA.out _).mono ?_
  rintro e w1 ⟨rfl, rfl⟩
  go_wp2_with fail
  refine (HN.out _).mono ?_
  rintro e w1 ⟨rfl, rfl⟩
  go_wp2_with fail
  refine (HRC.out _).mono ?_
  rintro e w1 ⟨rfl, d1, rfl⟩
  go_wp2_with fail
  refine (awake07 _).mono ?_
  rintro e w7 ⟨rfl, b7⟩
  have B7 := (below_drewN B0 _).trans (b7.mono B0.size)
  go_wp2_with fail
  refine (HLS.out _).mono ?_
  rintro e w2 ⟨rfl, rfl⟩
  go_wp2
  go_ret
  exact ⟨rfl, B7⟩
theorem float_true (a b : Nat) (w : World) (ha : a < 18446744073709551616) (hb : b < 18446744073709551616) (h : sameF a b = true) :
    Calls Try.prog 20 #[.float .f64 a, .float .f64 b] w fun e w' => e = .returned (.bool true) ∧ w = w' :=
  (float_any a b w ha hb).mono fun e w' ⟨h3, h4⟩ => ⟨by rw [h3, h], h4⟩
theorem fadd_congr2 {a a' b b' r r' : Nat} (h : sameF a a' = true) (h' : sameF b b' = true) (k : FAns (fadd a b) r) (k' : FAns (fadd a' b') r') : sameF r r' = true := by
  rcases same_cases h' with rfl | ⟨h1, h2⟩
  · exact fadd_congr h k k'
  · have e1 : ∀ a b : Nat, isNan b = true → fadd a b = none := fun a b hb => by
      obtain ⟨s, t, hh⟩ := read_nan hb
      show ((Ieee.double.read a).sum (Ieee.double.read b)).map _ = none
      rw [hh]
      cases Ieee.double.read a <;> rfl
    rw [e1 a b h1] at k
    rw [e1 a' b' h2] at k'
    exact k.congr k'
theorem fsub_congr2 {a a' b b' r r' : Nat} (h : sameF a a' = true) (h' : sameF b b' = true) (k : FAns (fsub a b) r) (k' : FAns (fsub a' b') r') : sameF r r' = true := by
  have e1 : ∀ a b : Nat, isNan b = true → fsub a b = none := fun a b hb => by
    obtain ⟨s, t, hh⟩ := read_nan hb
    show ((Ieee.double.read a).sum (Ieee.double.read b).opposite).map _ = none
    rw [hh]
    cases Ieee.double.read a <;> rfl
  have e2 : ∀ a b : Nat, isNan a = true → fsub a b = none := fun a b hb => by
    obtain ⟨s, t, hh⟩ := read_nan hb
    show ((Ieee.double.read a).sum _).map _ = none
    rw [hh]; rfl
  rcases same_cases h' with rfl | ⟨h1, h2⟩
  · rcases same_cases h with rfl | ⟨h3, h4⟩
    · exact k.congr k'
    · rw [e2 a b h3] at k
      rw [e2 a' b h4] at k'
      exact k.congr k'
  · rw [e1 a b h1] at k
    rw [e1 a' b' h2] at k'
    exact k.congr k'
set_option maxRecDepth 100000 in
set_option maxHeartbeats 4000000 in
theorem phaseMuls_rest (x y u v : Nat) (n : Int) (w : World) (hx : x < 18446744073709551616) (hy : y < 18446744073709551616) (hu : u < 18446744073709551616) (hv : v < 18446744073709551616) (hc : (isFin x && isFin y) = true) :
    Calls Try.prog 5 #[.agg #[.float .f64 x, .float .f64 y, .int .i64 n, .float .f64 u, .float .f64 v]] w fun e w' => e = .returned (.bool true) ∧ Below w.heap.size w w' := by
  have HN := Lib.hid (fun w => norm_ok x y w hx hy hc)
  have HRC := Lib.hid (fun w => rcounts_any x y w hx hy)
  rw [hc] at HRC
  have HRD := Lib.hid (fun w => rcounts_any u v w hu hv)
  have HLS := Lib.hid (fun w => lsame_self 0 0 w (by omega) (by omega))
  have HLf : ∀ (r r' : Nat), r < 18446744073709551616 → r' < 18446744073709551616 → sameF r r' = true → Hid (∀ w, Calls Try.prog 20 #[.float .f64 r, .float .f64 r'] w fun e w' => e = .returned (.bool true) ∧ w = w') := fun r r' a b c => Lib.hid fun w => float_true r r' w a b c
  have HF := Lib.hid HLf
  clear HLf
  cases hd : (isFin u && isFin v)
  · have HA := Lib.hid (fun w => mul_no x y u v w hx hy hu hv (by rw [hc, hd]; rfl))
    rw [hd] at HRD
    clear hc hd
    go_enter Try.func5, Try.ntmps5
    obtain ⟨w0, HE, c0, c1, c2, c3, c4, B0⟩ := box5 (w := w) (T := 24) (.float .f64 x) (.float .f64 y) (.int .i64 n) (.float .f64 u) (.float .f64 v)
    go_wp2
    rw [HE.out]
    clear HE
    go_quiet (fail)
    clear c0 c1 c2 c3 c4
    have B1 := below_drewN B0 nq
    generalize World.drewN w0 nq = w1 at B1 ⊢
    go_wp2_with fail
    refine (HA.out _).mono ?_
    rintro e w2 ⟨rfl, rfl⟩
    go_wp2_with fail
    refine (HN.out _).mono ?_
    rintro e w2 ⟨np, nq1, nr, nn, rfl, h1, h2, h3, rfl⟩
    have K1 := Lib.hid h1
    have K2 := Lib.hid h2
    have K3 := Lib.hid h3
    clear h1 h2 h3
    have B2 := below_drewN B1 nn
    clear B1
    generalize World.drewN w1 nn = w2 at B2 ⊢
    go_wp2_with fail
    refine (HRC.out _).mono ?_
    rintro e w3 ⟨rfl, d1, rfl⟩
    have B3 := below_drewN B2 d1
    clear B2
    generalize World.drewN w2 d1 = w3 at B3 ⊢
    obtain ⟨p1, e1, g1, run1⟩ := arith_run .mul 22 x x w3 (by simp)
    obtain ⟨p2, e2, g2, run2⟩ := arith_run .mul 22 y y (w3.drewN e1) (by simp)
    obtain ⟨p3, e3, g3, run3⟩ := arith_run .add 22 p1 p2 (w3.drewN (e1 + e2)) (by simp)
    have HL := (HF.out nr p3 K3.out.lt g3.lt (fadd_congr2 (K1.out.congr g1) (K2.out.congr g2) K3.out g3))
    clear g1 g2 g3
    rw [World.drewN_drewN] at run2
    go_wp2_with fail
    refine (HL.out _).mono ?_
    rintro e w4 ⟨rfl, rfl⟩
    have B4 := below_drewN B3 (e1 + e2 + e3)
    go_wp2_with fail
    refine (HRD.out _).mono ?_
    rintro e w4 ⟨rfl, d2, rfl⟩
    have B5 := below_drewN B3 (e1 + e2 + e3 + d2)
    go_wp2_with fail
    refine (awake07 _).mono ?_
    rintro e w7 ⟨rfl, b7⟩
    have B7 := B5.trans (b7.mono B5.size)
    go_wp2_with fail
    refine (HLS.out _).mono ?_
    rintro e w5 ⟨rfl, rfl⟩
    go_wp2
    go_ret
    exact ⟨rfl, B7⟩
  · have HA := Lib.hid (fun w => mul_ok x y u v w hx hy hu hv hc hd)
    rw [hd] at HRD
    clear hc hd
    go_enter Try.func5, Try.ntmps5
    obtain ⟨w0, HE, c0, c1, c2, c3, c4, B0⟩ := box5 (w := w) (T := 24) (.float .f64 x) (.float .f64 y) (.int .i64 n) (.float .f64 u) (.float .f64 v)
    go_wp2
    rw [HE.out]
    clear HE
    go_quiet (fail)
    clear c0 c1 c2 c3 c4
    have B1 := below_drewN B0 nq
    generalize World.drewN w0 nq = w1 at B1 ⊢
    go_wp2_with fail
    refine (HA.out _).mono ?_
    rintro e w2 ⟨mp, mq, mr, ms, mx, my, mn, rfl, h1, h2, h3, h4, h5, h6, rfl⟩
    have M1 := Lib.hid h1
    have M2 := Lib.hid h2
    have M3 := Lib.hid h3
    have M4 := Lib.hid h4
    have M5 := Lib.hid h5
    have M6 := Lib.hid h6
    clear h1 h2 h3 h4 h5 h6
    have B1' := below_drewN B1 mn
    clear B1
    generalize World.drewN w1 mn = w1' at B1' ⊢
    go_wp2_with fail
    refine (HN.out _).mono ?_
    rintro e w2 ⟨np, nq1, nr, nn, rfl, h1, h2, h3, rfl⟩
    have K1 := Lib.hid h1
    have K2 := Lib.hid h2
    have K3 := Lib.hid h3
    clear h1 h2 h3
    have B2 := below_drewN B1' nn
    clear B1'
    generalize World.drewN w1' nn = w2 at B2 ⊢
    go_wp2_with fail
    refine (HRC.out _).mono ?_
    rintro e w3 ⟨rfl, d1, rfl⟩
    have B3 := below_drewN B2 d1
    clear B2
    generalize World.drewN w2 d1 = w3 at B3 ⊢
    obtain ⟨p1, e1, g1, run1⟩ := arith_run .mul 22 x x w3 (by simp)
    obtain ⟨p2, e2, g2, run2⟩ := arith_run .mul 22 y y (w3.drewN e1) (by simp)
    obtain ⟨p3, e3, g3, run3⟩ := arith_run .add 22 p1 p2 (w3.drewN (e1 + e2)) (by simp)
    have HL := (HF.out nr p3 K3.out.lt g3.lt (fadd_congr2 (K1.out.congr g1) (K2.out.congr g2) K3.out g3))
    clear g1 g2 g3
    rw [World.drewN_drewN] at run2
    go_wp2_with fail
    refine (HL.out _).mono ?_
    rintro e w4 ⟨rfl, rfl⟩
    have B4 := below_drewN B3 (e1 + e2 + e3)
    go_wp2_with fail
    refine (HRD.out _).mono ?_
    rintro e w4 ⟨rfl, d2, rfl⟩
    have B5 := below_drewN B3 (e1 + e2 + e3 + d2)
    go_wp2_with fail
    refine (awake07 _).mono ?_
    rintro e w7 ⟨rfl, b7⟩
    have B7 := B5.trans (b7.mono B5.size)
    clear run1 run2 run3
    obtain ⟨q1, j1, g1, run1⟩ := arith_run .mul 22 x u w7 (by simp)
    obtain ⟨q2, j2, g2, run2⟩ := arith_run .mul 22 y v (w7.drewN j1) (by simp)
    obtain ⟨q3, j3, g3, run3⟩ := arith_run .sub 22 q1 q2 (w7.drewN (j1 + j2)) (by simp)
    obtain ⟨q4, j4, g4, run4⟩ := arith_run .mul 22 x v (w7.drewN (j1 + j2 + j3)) (by simp)
    obtain ⟨q5, j5, g5, run5⟩ := arith_run .mul 22 y u (w7.drewN (j1 + j2 + j3 + j4)) (by simp)
    obtain ⟨q6, j6, g6, run6⟩ := arith_run .add 22 q4 q5 (w7.drewN (j1 + j2 + j3 + j4 + j5)) (by simp)
    have HG := Lib.hid (fun w => lsame_true mx my q3 q6 w M3.out.lt M6.out.lt g3.lt g6.lt (fsub_congr2 (M1.out.congr g1) (M2.out.congr g2) M3.out g3) (fadd_congr2 (M4.out.congr g4) (M5.out.congr g5) M6.out g6))
    clear g1 g2 g3 g4 g5 g6
    rw [World.drewN_drewN] at run2 run3 run4 run5 run6
    go_wp2_with fail
    refine (HG.out _).mono ?_
    rintro e w5 ⟨rfl, rfl⟩
    go_wp2
    go_ret
    exact ⟨rfl, below_drewN B7 _⟩
theorem phaseMuls_walk {H : Type} {enc : TypeId × Value → H} {r : Reach} {b0 : Nat} (v : Value) (d : DataW H) (p : List MemPlace) (w : World)
    (hok : Value.okWide Try.prog w r b0 24 v) (h : DataW.Trod enc Try.prog w 0 (fun _ => true) true 24 v d p) :
    Calls Try.prog 5 #[v] w fun e w' => e = .returned (.bool true) ∧ Below w.heap.size w w' := by
  obtain ⟨x, y, n, u, z, rfl, hx, hy, hn, hu, hz⟩ := open_five hok h
  cases hc : (isFin x && isFin y)
  · exact phaseMuls_no1 x y u z n w hx hy hu hz hc
  · exact phaseMuls_rest x y u z n w hx hy hu hz hc
end Go.Proofs.Ytlhcbbcgnkpknaa
