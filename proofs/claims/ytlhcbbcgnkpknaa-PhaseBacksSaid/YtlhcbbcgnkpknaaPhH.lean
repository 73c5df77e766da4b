/- The laws of layer 7 (cellaret): PhaseTurns, PhaseAdds, PhaseMuls. -/
import Derived.Test.YtlhcbbcgnkpknaaPhG
import Derived.Test.YtlhcbbcgnkpknaaOpen
namespace Go.Proofs.Ytlhcbbcgnkpknaa
open Go.RowKit Go.Deep Go.ChangeShapes Go.WideShapes
set_option linter.unusedVariables false
attribute [local go_sem] unary_negf run_store_complex run_store_float

section
variable {H : Type} {enc : TypeId × Value → H} {P : Program} {w : World}
/-- A struct of one-cell fields that came in by value. -/
theorem open_agg_any {r : Reach} {b0 : Nat} {t : TypeId} {fs : Array Field} {v : Value} {d : DataW H} {p : List MemPlace} (hs : P.underlying t = some (.struct fs)) (hone : oneCellFields P fs = true) (hC : P.cellsOf t = fs.size)
    (hv : Value.okWide P w r b0 t v) (h : DataW.Trod enc P w 0 (fun _ => true) true t v d p) :
    ∃ (cs : List Value) (n : Nat), v = .agg cs.toArray ∧ cs.length = fs.size ∧ ∀ (j : Nat) (f : Field), fs[j]? = some f → ∃ (u : Value) (y : DataW H × List MemPlace), cs[j]? = some u ∧ DataW.trod enc P w 0 (fun _ => true) true n f.type [u] = some y := by
  obtain ⟨cs, rfl, hsz⟩ := okWide_struct hs hv
  obtain ⟨l⟩ := cs
  have hl : l.length = fs.size := hsz.trans hC
  obtain ⟨fuel, hf⟩ := h
  obtain ⟨ys, n', hn', hy, hlen, hyl, hf'⟩ := DataW.trod_struct hs hf
  refine ⟨l, n', rfl, hl, fun j f hj => ?_⟩
  obtain ⟨ho, hk⟩ := hone_of hone j f hj
  have hjl : j < fs.size := (Array.getElem?_eq_some_iff.1 hj).1
  have h1 := hf' j f hj
  rw [ho, hk] at h1
  have e0 : (Value.agg ⟨l⟩).cells.toList = l := by simp [Value.cells]
  rw [e0] at h1
  have hone' : (l.drop j).take 1 = [l[j]'(by omega)] := by
    rw [List.drop_eq_getElem_cons (by omega)]
    rfl
  rw [hone'] at h1
  have hys : ys[j]? = some (ys[j]'(by omega)) := List.getElem?_eq_getElem (by omega)
  exact ⟨_, _, List.getElem?_eq_getElem (by omega), h1.trans hys⟩
theorem field_float {n : Nat} {t : TypeId} {v : Value} {y : DataW H × List MemPlace} (ht : P.underlying t = some (.float .f64)) (h : DataW.trod enc P w 0 (fun _ => true) true n t [v] = some y) :
    ∃ x, v = .float .f64 x ∧ x < 18446744073709551616 := by
  cases n with
  | zero => simp [DataW.trod] at h
  | succ n =>
    simp only [DataW.trod, ht] at h
    cases v <;> simp at h
    rename_i k b
    cases k <;> simp at h
    by_cases hw : (Lit.float .f64 b).wf = true
    · exact ⟨b, rfl, float_wf hw⟩
    · simp [hw] at h
end
theorem box5 {w : World} {T : TypeId} (v0 v1 v2 v3 v4 : Value) : ∃ w0, Hid (w.alloc (.cells #[v0, v1, v2, v3, v4] T) = w0) ∧ w0.cell? ⟨w.heap.size, 0, none⟩ = some v0 ∧ w0.cell? ⟨w.heap.size, 1, none⟩ = some v1 ∧ w0.cell? ⟨w.heap.size, 2, none⟩ = some v2 ∧ w0.cell? ⟨w.heap.size, 3, none⟩ = some v3 ∧ w0.cell? ⟨w.heap.size, 4, none⟩ = some v4 ∧ Below w.heap.size w w0 :=
  ⟨_, Lib.hid rfl, by simp, by simp, by simp, by simp, by simp, (Below.refl _ _).alloc (Nat.le_refl _) _⟩
theorem box4 {w : World} {T : TypeId} (v0 v1 v2 v3 : Value) : ∃ w0, Hid (w.alloc (.cells #[v0, v1, v2, v3] T) = w0) ∧ w0.cell? ⟨w.heap.size, 0, none⟩ = some v0 ∧ w0.cell? ⟨w.heap.size, 1, none⟩ = some v1 ∧ w0.cell? ⟨w.heap.size, 2, none⟩ = some v2 ∧ w0.cell? ⟨w.heap.size, 3, none⟩ = some v3 ∧ Below w.heap.size w w0 :=
  ⟨_, Lib.hid rfl, by simp, by simp, by simp, by simp, (Below.refl _ _).alloc (Nat.le_refl _) _⟩
theorem turn_one (a b : Nat) (w : World) : Calls Try.prog 11 #[.complex .f64 a b, .int .i64 1] w fun e w' => e = .returned (.complex .f64 (fneg b) a) ∧ Below w.heap.size w w' := turn_any a b 1 w 1 rfl (by omega)
theorem lsame_self (a b : Nat) (w : World) (ha : a < 18446744073709551616) (hb : b < 18446744073709551616) :
    Calls Try.prog 10 #[.complex .f64 a b, .float .f64 a, .float .f64 b] w fun e w' => e = .returned (.bool true) ∧ w = w' :=
  (lsame_any a b a b w ha hb ha hb).mono fun e w' ⟨h1, h2⟩ => ⟨by rw [h1, sameF_self, sameF_self]; rfl, h2⟩
theorem same_self (a b : Nat) (w : World) (ha : a < 18446744073709551616) (hb : b < 18446744073709551616) :
    Calls Try.prog 14 #[.complex .f64 a b, .complex .f64 a b] w fun e w' => e = .returned (.bool true) ∧ w = w' :=
  (same_any a b a b w ha hb ha hb).mono fun e w' ⟨h1, h2⟩ => ⟨by rw [h1, sameF_self, sameF_self]; rfl, h2⟩
theorem lsame_true (a b c d : Nat) (w : World) (ha : a < 18446744073709551616) (hb : b < 18446744073709551616) (hc : c < 18446744073709551616) (hd : d < 18446744073709551616) (h1 : sameF a c = true) (h2 : sameF b d = true) :
    Calls Try.prog 10 #[.complex .f64 a b, .float .f64 c, .float .f64 d] w fun e w' => e = .returned (.bool true) ∧ w = w' :=
  (lsame_any a b c d w ha hb hc hd).mono fun e w' ⟨h3, h4⟩ => ⟨by rw [h3, h1, h2]; rfl, h4⟩
set_option maxRecDepth 100000 in
set_option maxHeartbeats 2000000 in
theorem phaseTurns_body (x y u v q : Nat) (n : Int) (w : World) (hx : x < 18446744073709551616) (hy : y < 18446744073709551616) (hu : u < 18446744073709551616) (hv : v < 18446744073709551616) (hq : n % 4 = (q : Int)) (hn : -9223372036854775808 ≤ n ∧ n ≤ 9223372036854775807) :
    Calls Try.prog 3 #[.agg #[.float .f64 x, .float .f64 y, .int .i64 n, .float .f64 u, .float .f64 v]] w fun e w' => e = .returned (.bool true) ∧ Below w.heap.size w w' := by
  have hq4 : q < 4 := by omega
  have HQ := Lib.hid (fun w => quarters_any n w q hq hn)
  have HR := Lib.hid (fun w => rturn_any x y q w hq4)
  have HT := Lib.hid (fun w => turn_any x y n w q hq hn)
  obtain ⟨t1, t2⟩ := turnF_lt q (x, y) hx hy
  have HS := Lib.hid (fun w => lsame_self (turnF q (x, y)).1 (turnF q (x, y)).2 w t1 t2)
  generalize (turnF q (x, y)).1 = tx at HR HT HS
  generalize (turnF q (x, y)).2 = ty at HR HT HS
  have HC := Lib.hid (fun w => counts_any x y w hx hy)
  have HRC := Lib.hid (fun w => rcounts_any x y w hx hy)
  have HM := Lib.hid (fun w => same_any x y u v w hx hy hu hv)
  have HRM := Lib.hid (fun w => rsame_any x y u v w hx hy hu hv)
  generalize (sameF x u && sameF y v) = c2 at HM HRM
  have HMS := Lib.hid (fun w => same_self x y w hx hy)
  have HLS := Lib.hid (fun w => lsame_self x y w hx hy)
  have H1 := Lib.hid (fun w => turn_one x y w)
  have H2 := Lib.hid (fun w => turn_one (fneg y) x w)
  have H3 := Lib.hid (fun w => turn_one (fneg x) (fneg y) w)
  rw [fneg_neg] at H3
  have H4 := Lib.hid (fun w => turn_one y (fneg x) w)
  rw [fneg_neg] at H4
  clear hq t1 t2
  cases hc : (isFin x && isFin y)
  all_goals
    rw [hc] at HC HRC
    clear hc
    go_enter Try.func3, Try.ntmps3
    obtain ⟨w0, HE, c0, c1, c2, c3, c4, B0⟩ := box5 (w := w) (T := 24) (.float .f64 x) (.float .f64 y) (.int .i64 n) (.float .f64 u) (.float .f64 v)
    go_wp2
    rw [HE.out]
    clear HE
    go_quiet (fail)
    clear c0 c1 c2 c3 c4
    go_wp2_with fail
    refine (HQ.out _).mono ?_
    rintro e w1 ⟨rfl, rfl⟩
    go_wp2_with fail
    refine (HR.out _).mono ?_
    rintro e w1 ⟨rfl, rfl⟩
    go_wp2_with fail
    refine (HT.out _).mono ?_
    rintro e w1 ⟨rfl, b1⟩
    have B1 := (below_drewN B0 _).trans (b1.mono B0.size)
    clear b1
    go_wp2_with fail
    refine (HS.out _).mono ?_
    rintro e w2 ⟨rfl, rfl⟩
    go_wp2_with fail
    refine (HC.out _).mono ?_
    rintro e w2 ⟨rfl, rfl⟩
    go_wp2_with fail
    refine (HRC.out _).mono ?_
    rintro e w2 ⟨rfl, d1, rfl⟩
    go_wp2_with fail
    refine (HM.out _).mono ?_
    rintro e w2 ⟨rfl, rfl⟩
    go_wp2_with fail
    refine (HRM.out _).mono ?_
    rintro e w2 ⟨rfl, rfl⟩
    go_wp2_with fail
    refine (HMS.out _).mono ?_
    rintro e w2 ⟨rfl, rfl⟩
    have B2 := below_drewN B1 d1
    clear B1
    generalize World.drewN w1 d1 = w2 at B2 ⊢
    go_wp2_with fail
    refine (H1.out _).mono ?_
    rintro e w3 ⟨rfl, b3⟩
    have B3 := B2.trans (b3.mono B2.size)
    go_wp2_with fail
    refine (H2.out _).mono ?_
    rintro e w4 ⟨rfl, b4⟩
    have B4 := B3.trans (b4.mono B3.size)
    go_wp2_with fail
    refine (H3.out _).mono ?_
    rintro e w5 ⟨rfl, b5⟩
    have B5 := B4.trans (b5.mono B4.size)
    go_wp2_with fail
    refine (H4.out _).mono ?_
    rintro e w6 ⟨rfl, b6⟩
    have B6 := B5.trans (b6.mono B5.size)
    clear b3 b4 b5 b6 B2 B3 B4 B5
    go_wp2_with fail
    refine (awake07 _).mono ?_
    rintro e w7 ⟨rfl, b7⟩
    have B7 := B6.trans (b7.mono B6.size)
    clear b7 B6
    go_wp2_with fail
    refine (HRC.out _).mono ?_
    rintro e w2 ⟨rfl, d2, rfl⟩
    go_wp2_with fail
  · go_ret
    exact ⟨rfl, below_drewN B7 d2⟩
  · refine (HLS.out _).mono ?_
    rintro e w2 ⟨rfl, rfl⟩
    go_wp2
    go_ret
    exact ⟨rfl, below_drewN B7 d2⟩
theorem five_fields : ∃ f0 f1 f2 f3 f4, Try.prog.underlying 24 = some (.struct #[f0, f1, f2, f3, f4]) ∧ oneCellFields Try.prog #[f0, f1, f2, f3, f4] = true ∧ f0.type = 22 ∧ f1.type = 22 ∧ f2.type = 3 ∧ f3.type = 22 ∧ f4.type = 22 :=
  ⟨_, _, _, _, _, Try.underlying24, by kernel_rfl, rfl, rfl, rfl, rfl, rfl⟩
theorem four_fields : ∃ f0 f1 f2 f3, Try.prog.underlying 38 = some (.struct #[f0, f1, f2, f3]) ∧ oneCellFields Try.prog #[f0, f1, f2, f3] = true ∧ f0.type = 22 ∧ f1.type = 22 ∧ f2.type = 3 ∧ f3.type = 3 :=
  ⟨_, _, _, _, Try.underlying38, by kernel_rfl, rfl, rfl, rfl, rfl⟩
section
variable {H : Type} {enc : TypeId × Value → H}
theorem open_five {w : World} {r : Reach} {b0 : Nat} {v : Value} {d : DataW H} {p : List MemPlace} (hok : Value.okWide Try.prog w r b0 24 v) (h : DataW.Trod enc Try.prog w 0 (fun _ => true) true 24 v d p) :
    ∃ (x y : Nat) (n : Int) (u z : Nat), v = .agg #[.float .f64 x, .float .f64 y, .int .i64 n, .float .f64 u, .float .f64 z] ∧ x < 18446744073709551616 ∧ y < 18446744073709551616 ∧ (Lit.int .i64 n).wf = true ∧ u < 18446744073709551616 ∧ z < 18446744073709551616 := by
  obtain ⟨f0, f1, f2, f3, f4, hs, hone, t0, t1, t2, t3, t4⟩ := five_fields
  obtain ⟨cs, m, rfl, hl, hf⟩ := open_agg_any hs hone (by kernel_rfl) hok h
  obtain ⟨v0, y0, e0, h0⟩ := hf 0 f0 rfl
  obtain ⟨v1, y1, e1, h1⟩ := hf 1 f1 rfl
  obtain ⟨v2, y2, e2, h2⟩ := hf 2 f2 rfl
  obtain ⟨v3, y3, e3, h3⟩ := hf 3 f3 rfl
  obtain ⟨v4, y4, e4, h4⟩ := hf 4 f4 rfl
  rw [t0] at h0
  rw [t1] at h1
  rw [t2] at h2
  rw [t3] at h3
  rw [t4] at h4
  obtain ⟨x0, rfl, w0⟩ := field_float Try.underlying22 h0
  obtain ⟨x1, rfl, w1⟩ := field_float Try.underlying22 h1
  obtain ⟨x2, rfl, w2⟩ := field_int Try.underlying3 h2
  obtain ⟨x3, rfl, w3⟩ := field_float Try.underlying22 h3
  obtain ⟨x4, rfl, w4⟩ := field_float Try.underlying22 h4
  refine ⟨x0, x1, x2, x3, x4, ?_, w0, w1, w2, w3, w4⟩
  have hl5 : cs.length = 5 := hl
  match cs, hl5, e0, e1, e2, e3, e4 with
  | [a, b, c, d, e], _, e0, e1, e2, e3, e4 =>
    simp at e0 e1 e2 e3 e4
    subst e0 e1 e2 e3 e4
    rfl
theorem open_four {w : World} {r : Reach} {b0 : Nat} {v : Value} {d : DataW H} {p : List MemPlace} (hok : Value.okWide Try.prog w r b0 38 v) (h : DataW.Trod enc Try.prog w 0 (fun _ => true) true 38 v d p) :
    ∃ (x y : Nat) (n k : Int), v = .agg #[.float .f64 x, .float .f64 y, .int .i64 n, .int .i64 k] ∧ x < 18446744073709551616 ∧ y < 18446744073709551616 ∧ (Lit.int .i64 n).wf = true ∧ (Lit.int .i64 k).wf = true := by
  obtain ⟨f0, f1, f2, f3, hs, hone, t0, t1, t2, t3⟩ := four_fields
  obtain ⟨cs, m, rfl, hl, hf⟩ := open_agg_any hs hone (by kernel_rfl) hok h
  obtain ⟨v0, y0, e0, h0⟩ := hf 0 f0 rfl
  obtain ⟨v1, y1, e1, h1⟩ := hf 1 f1 rfl
  obtain ⟨v2, y2, e2, h2⟩ := hf 2 f2 rfl
  obtain ⟨v3, y3, e3, h3⟩ := hf 3 f3 rfl
  rw [t0] at h0
  rw [t1] at h1
  rw [t2] at h2
  rw [t3] at h3
  obtain ⟨x0, rfl, w0⟩ := field_float Try.underlying22 h0
  obtain ⟨x1, rfl, w1⟩ := field_float Try.underlying22 h1
  obtain ⟨x2, rfl, w2⟩ := field_int Try.underlying3 h2
  obtain ⟨x3, rfl, w3⟩ := field_int Try.underlying3 h3
  refine ⟨x0, x1, x2, x3, ?_, w0, w1, w2, w3⟩
  have hl4 : cs.length = 4 := hl
  match cs, hl4, e0, e1, e2, e3 with
  | [a, b, c, d], _, e0, e1, e2, e3 =>
    simp at e0 e1 e2 e3
    subst e0 e1 e2 e3
    rfl
end
theorem phaseTurns_walk {H : Type} {enc : TypeId × Value → H} {r : Reach} {b0 : Nat} (v : Value) (d : DataW H) (p : List MemPlace) (w : World)
    (hok : Value.okWide Try.prog w r b0 24 v) (h : DataW.Trod enc Try.prog w 0 (fun _ => true) true 24 v d p) :
    Calls Try.prog 3 #[v] w fun e w' => e = .returned (.bool true) ∧ Below w.heap.size w w' := by
  obtain ⟨x, y, n, u, z, rfl, hx, hy, hn, hu, hz⟩ := open_five hok h
  exact phaseTurns_body x y u z (n % 4).toNat n w hx hy hu hz (by omega) (bounds_i64 hn)
end Go.Proofs.Ytlhcbbcgnkpknaa
