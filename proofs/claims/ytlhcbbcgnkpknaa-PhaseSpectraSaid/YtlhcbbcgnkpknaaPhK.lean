/- The laws of layer 7 (cellaret): PhaseSpectra. -/
import Derived.Test.YtlhcbbcgnkpknaaPhJ
import Derived.Laws.IdiomArrays
namespace Go.Proofs.Ytlhcbbcgnkpknaa
open Go.RowKit Go.Deep Go.ChangeShapes Go.WideShapes
set_option linter.unusedVariables false
attribute [local go_sem] unary_negf run_store_complex run_store_float

theorem back_int (l : Nat → Int) (w : World) (hl : ∀ t, t < 4 → 0 ≤ l t ∧ l t ≤ 1048576) :
    Calls Try.prog 25 #[.agg #[.complex .f64 (fi (SAl l 0)) (fi (SBl l 0)), .complex .f64 (fi (SAl l 1)) (fi (SBl l 1)), .complex .f64 (fi (SAl l 2)) (fi (SBl l 2)), .complex .f64 (fi (SAl l 3)) (fi (SBl l 3))]] w fun e w' =>
      e = .returned (.tuple #[.agg #[.complex .f64 (fi (l 0)) 0, .complex .f64 (fi (l 1)) 0, .complex .f64 (fi (l 2)) 0, .complex .f64 (fi (l 3)) 0], .int .i64 0]) ∧ Below w.heap.size w w' := by
  have nb := fun t => NI_abs l t hl
  refine (back_ok (fun k => (fi (SAl l k), fi (SBl l k))) w (fun t ht => ⟨fi_lt (by have := nb t; omega), fi_lt (by have := nb t; omega)⟩) (fun t ht => by
    show (isFin (fi (SAl l t)) && isFin (fi (SBl l t))) = true
    rw [fi_fin (by have := nb t; omega), fi_fin (by have := nb t; omega)]; rfl)).mono ?_
  rintro e w' ⟨G, rfl, hG, hb⟩
  have key : ∀ t, t < 4 → G t = (fi (l t), 0) := fun t ht => by
    obtain ⟨z, hz, h1, h2⟩ := hG t ht
    have hz' := wave_int 1 (fun k => (SAl l k, SBl l k)) t 4194304 z (by omega) (fun k hk => ⟨(nb k).1, (nb k).2.1⟩) hz
    obtain ⟨s0, s1, s2, s3, t0, t1, t2, t3⟩ := S0 l
    have e1 : SA 1 (fun k => (SAl l k, SBl l k)) t = 4 * l t ∧ SB 1 (fun k => (SAl l k, SBl l k)) t = 0 := by
      rcases k4 ht with rfl | rfl | rfl | rfl
      all_goals
        simp [SA, SB, sumI, qrt, turnI, s0, s1, s2, s3, t0, t1, t2, t3]
        omega
    rw [e1.1, e1.2] at hz'
    subst hz'
    have b := hl t ht
    have m1 := h1.of (v := fi (l t)) (mul_quarter (by omega))
    have m2 := h2.of (v := fi 0) (mul_quarter (n := 0) (by omega))
    rw [fi_zero] at m2
    exact Prod.ext m1 m2
  rw [key 0 (by omega), key 1 (by omega), key 2 (by omega), key 3 (by omega)]
  exact ⟨rfl, hb⟩
theorem sq_bd {x : Int} (h : x.natAbs ≤ 4194304) : 0 ≤ x * x ∧ x * x ≤ 17592186044416 := by
  have e := Int.natAbs_mul_self (a := x)
  have := Nat.mul_le_mul h h
  omega
/-- The sum of all squares. -/
theorem squares (l : Nat → Int) : sumI (NI l) 4 = 4 * sumI (fun t => l t * l t) 4 := by
  obtain ⟨s0, s1, s2, s3, t0, t1, t2, t3⟩ := S0 l
  show 0 + NI l 0 + NI l 1 + NI l 2 + NI l 3 = 4 * (0 + l 0 * l 0 + l 1 * l 1 + l 2 * l 2 + l 3 * l 3)
  unfold NI
  rw [s0, s1, s2, s3, t0, t1, t2, t3]
  generalize l 0 = a
  generalize l 1 = b
  generalize l 2 = c
  generalize l 3 = d
  simp only [Int.add_mul, Int.mul_add, Int.sub_mul, Int.mul_sub]
  rw [Int.mul_comm b a, Int.mul_comm c a, Int.mul_comm d a, Int.mul_comm c b, Int.mul_comm d b, Int.mul_comm d c]
  omega
theorem sumI_bd (f : Nat → Int) (B : Nat) (k : Nat) (h : ∀ t, t < k → 0 ≤ f t ∧ f t ≤ B) : 0 ≤ sumI f k ∧ sumI f k ≤ k * B := by
  induction k with
  | zero => show (0 : Int) ≤ 0 ∧ (0 : Int) ≤ ((0 : Nat) : Int) * B; omega
  | succ k ih =>
    have h1 := ih (fun t ht => h t (by omega))
    have h2 := h k (by omega)
    show 0 ≤ sumI f k + f k ∧ sumI f k + f k ≤ _
    have : ((k + 1 : Nat) : Int) * (B : Int) = (k : Int) * B + B := by
      rw [show ((k + 1 : Nat) : Int) = (k : Int) + 1 by omega, Int.add_mul, Int.one_mul]
    omega
set_option maxRecDepth 100000 in
set_option maxHeartbeats 4000000 in
theorem phaseSpectra_no (l : Nat → Int) (w : World) (i : Nat) (hi : i < 4) (hl : ∀ t, t < i → 0 ≤ l t ∧ l t ≤ 1048576) (hb : ¬ (0 ≤ l i ∧ l i ≤ 1048576)) :
    Calls Try.prog 6 #[.agg #[.int .i64 (l 0), .int .i64 (l 1), .int .i64 (l 2), .int .i64 (l 3)]] w fun e w' => e = .returned (.bool true) ∧ Below w.heap.size w w' := by
  have HS := Lib.hid (fun w => spectrum_no l w i hi hl hb)
  have HB := Lib.hid (fun w => beat_no l w i hi hl hb)
  have HR := Lib.hid (fun w => right_no l w i hi hl hb)
  obtain ⟨w0, HE, c0, c1, c2, c3, B0⟩ := box4 (w := w) (T := 46) (.int .i64 (l 0)) (.int .i64 (l 1)) (.int .i64 (l 2)) (.int .i64 (l 3))
  have HC : Hid (IntAt w0 w.heap.size l) := Lib.hid ⟨fun k hk => by rcases k4 hk with rfl | rfl | rfl | rfl <;> assumption, by have := B0.size; exact Nat.lt_of_not_le fun h => by simp [World.cell?, Array.getElem?_eq_none h] at c0⟩
  clear hl hb
  have o2 : (FloatKind.f64.format.order 0 0 == some Ordering.eq) = true := by decide +kernel
  go_enter Try.func6, Try.ntmps6
  go_wp2_with fail
  rw [HE.out]
  clear HE
  go_wp2_with fail
  refine (HS.out _).mono ?_
  rintro e w1 ⟨rfl, b1⟩
  have B1 := B0.trans (b1.mono B0.size)
  have HC1 := Lib.hid (HC.out.below b1)
  obtain ⟨w2, HE2, HO, HC2, B2⟩ : ∃ w2, Hid (w1.alloc (.cells #[.complex .f64 0 0, .complex .f64 0 0, .complex .f64 0 0, .complex .f64 0 0] 47) = w2) ∧ Hid (OutAt w2 w1.heap.size (fun _ => (0, 0))) ∧ Hid (IntAt w2 w.heap.size l) ∧ Below w.heap.size w w2 := by
    refine ⟨_, Lib.hid rfl, Lib.hid ⟨fun k hk => ?_, fun k hk => ?_, by simp⟩, Lib.hid (HC1.out.below ((Below.refl _ _).alloc (Nat.le_refl _) _)), B1.alloc B1.size _⟩
    all_goals (rcases k4 hk with rfl | rfl | rfl | rfl <;> simp [go_sem])
  clear c0 c1 c2 c3 b1
  have c0 := HC2.out.cells 0 (by omega)
  have c1 := HC2.out.cells 1 (by omega)
  have c2 := HC2.out.cells 2 (by omega)
  have c3 := HC2.out.cells 3 (by omega)
  rw [← HE2.out] at c0 c1 c2 c3
  go_wp2_with fail
  rw [HE2.out]
  clear c0 c1 c2 c3 HE2
  refine (HB.out _).mono ?_
  rintro e w3 ⟨rfl, b3⟩
  have B3 := B2.trans (b3.mono B2.size)
  have HC3 := Lib.hid (HC2.out.below b3)
  have HO3 := Lib.hid (HO.out.below b3)
  clear b3
  have c0 := HC3.out.cells 0 (by omega)
  have c1 := HC3.out.cells 1 (by omega)
  have c2 := HC3.out.cells 2 (by omega)
  have c3 := HC3.out.cells 3 (by omega)
  go_wp2_with fail
  clear c0 c1 c2 c3
  refine (HR.out _).mono ?_
  rintro e w4 ⟨rfl, b4⟩
  have B4 := B3.trans (b4.mono B3.size)
  have HO4 := Lib.hid (HO3.out.below b4)
  clear b4
  go_wp2_with fail
  refine (awake07 _).mono ?_
  rintro e w5 ⟨rfl, b5⟩
  have B5 := B4.trans (b5.mono B4.size)
  have HO5 := HO4.out.below b5
  have c0 := HO5.cells 0 (by omega)
  have c1 := HO5.cells 1 (by omega)
  have c2 := HO5.cells 2 (by omega)
  have c3 := HO5.cells 3 (by omega)
  clear HO5 b5
  have hz : ∀ w, (binOp .eql 47 (.agg #[.complex .f64 0 0, .complex .f64 0 0, .complex .f64 0 0, .complex .f64 0 0]) (.agg #[.complex .f64 0 0, .complex .f64 0 0, .complex .f64 0 0, .complex .f64 0 0])).run Try.prog w = .ok (.bool true) w := fun _ => by kernel_rfl
  go_wp2
  go_ret
  exact ⟨rfl, B5⟩
set_option maxRecDepth 100000 in
set_option maxHeartbeats 8000000 in
theorem phaseSpectra_ok (l : Nat → Int) (w : World) (hl : ∀ t, t < 4 → 0 ≤ l t ∧ l t ≤ 1048576) :
    Calls Try.prog 6 #[.agg #[.int .i64 (l 0), .int .i64 (l 1), .int .i64 (l 2), .int .i64 (l 3)]] w fun e w' => e = .returned (.bool true) ∧ Below w.heap.size w w' := by
  have HS := Lib.hid (fun w => spectrum_ok l w hl)
  have HB := Lib.hid (fun w => beat_ok l w hl)
  have HR := Lib.hid (fun w => right_ok l w hl)
  have HRS := Lib.hid (fun w => rspec_any l w hl)
  have HBK := Lib.hid (fun w => back_int l w hl)
  have HNB := Lib.hid (fun k => NI_abs l k hl)
  have HBB := Lib.hid (beatI_bd l hl)
  have HL := Lib.hid hl
  have HSQ := Lib.hid (squares l)
  obtain ⟨w0, HE, c0, c1, c2, c3, B0⟩ := box4 (w := w) (T := 46) (.int .i64 (l 0)) (.int .i64 (l 1)) (.int .i64 (l 2)) (.int .i64 (l 3))
  have HC : Hid (IntAt w0 w.heap.size l) := Lib.hid ⟨fun k hk => by rcases k4 hk with rfl | rfl | rfl | rfl <;> assumption, by have := B0.size; exact Nat.lt_of_not_le fun h => by simp [World.cell?, Array.getElem?_eq_none h] at c0⟩
  clear hl
  go_enter Try.func6, Try.ntmps6
  go_wp2_with fail
  rw [HE.out]
  clear HE
  go_wp2_with fail
  refine (HS.out _).mono ?_
  rintro e w1 ⟨rfl, b1⟩
  have B1 := B0.trans (b1.mono B0.size)
  have HC1 := Lib.hid (HC.out.below b1)
  obtain ⟨w2, HE2, HO, HC2, B2⟩ : ∃ w2, Hid (w1.alloc (.cells #[.complex .f64 (fi (SAl l 0)) (fi (SBl l 0)), .complex .f64 (fi (SAl l 1)) (fi (SBl l 1)), .complex .f64 (fi (SAl l 2)) (fi (SBl l 2)), .complex .f64 (fi (SAl l 3)) (fi (SBl l 3))] 47) = w2) ∧ Hid (OutAt w2 w1.heap.size (fun k => (fi (SAl l k), fi (SBl l k)))) ∧ Hid (IntAt w2 w.heap.size l) ∧ Below w.heap.size w w2 := by
    refine ⟨_, Lib.hid rfl, Lib.hid ⟨fun k hk => ?_, fun k hk => ?_, by simp⟩, Lib.hid (HC1.out.below ((Below.refl _ _).alloc (Nat.le_refl _) _)), B1.alloc B1.size _⟩
    all_goals (rcases k4 hk with rfl | rfl | rfl | rfl <;> simp [go_sem])
  clear c0 c1 c2 c3 b1
  have c0 := HC2.out.cells 0 (by omega)
  have c1 := HC2.out.cells 1 (by omega)
  have c2 := HC2.out.cells 2 (by omega)
  have c3 := HC2.out.cells 3 (by omega)
  rw [← HE2.out] at c0 c1 c2 c3
  go_wp2_with fail
  rw [HE2.out]
  clear c0 c1 c2 c3 HE2
  refine (HB.out _).mono ?_
  rintro e w3 ⟨rfl, b3⟩
  have B3 := B2.trans (b3.mono B2.size)
  have HC3 := Lib.hid (HC2.out.below b3)
  have HO3 := Lib.hid (HO.out.below b3)
  clear b3
  have c0 := HC3.out.cells 0 (by omega)
  have c1 := HC3.out.cells 1 (by omega)
  have c2 := HC3.out.cells 2 (by omega)
  have c3 := HC3.out.cells 3 (by omega)
  go_wp2_with fail
  clear c0 c1 c2 c3
  refine (HR.out _).mono ?_
  rintro e w4 ⟨rfl, b4⟩
  have B4 := B3.trans (b4.mono B3.size)
  have HO4 := Lib.hid (HO3.out.below b4)
  have HC4 := Lib.hid (HC3.out.below b4)
  clear b4
  have c0 := HC4.out.cells 0 (by omega)
  have c1 := HC4.out.cells 1 (by omega)
  have c2 := HC4.out.cells 2 (by omega)
  have c3 := HC4.out.cells 3 (by omega)
  go_wp2_with fail
  clear c0 c1 c2 c3
  refine (HRS.out _).mono ?_
  rintro e w5 ⟨g1, g2, rfl, i1, i2, b5⟩
  have B5 := B4.trans (b5.mono B4.size)
  have HO5 := Lib.hid (HO4.out.below b5)
  have HC5 := Lib.hid (HC4.out.below b5)
  have HA := Lib.hid i1
  have HZ := Lib.hid i2
  clear i1 i2 b5
  generalize w1.heap.size = gx at HO5 ⊢
  clear HO HO3 HO4 HC HC1 HC2 HC3 HC4 B0 B1 B2 B3 B4
  go_wp2
  go_loopw [9, 10, 11, 12] (fun x9 x10 x11 x12 wi => ∃ k : Nat, x12 = .int .i64 k ∧ k ≤ 4 ∧ x9 = .int .i64 (beatI l (k - 1)).2 ∧ x10 = .int .i64 (beatI l (k - 1)).1 ∧ x11 = .int .i64 (sumI (NI l) k) ∧ ∃ q, wi = w5.drewN q) (fun _ _ _ x12 _ => 4 - (intOf x12).toNat)
  case atStart => exact ⟨0, rfl, by omega, rfl, rfl, rfl, 0, rfl⟩
  case round =>
    obtain ⟨k, rfl, hk, rfl, rfl, rfl, q, rfl⟩ := hrel
    by_cases hlt : k < 4
    · have hli : (k : Int) < 4 := by omega
      have ca : (w5.drewN q).cell? ⟨g1, k, none⟩ = some (.int .i64 (SAl l k)) := HA.out.cells k hlt
      have cb : (w5.drewN q).cell? ⟨g2, k, none⟩ = some (.int .i64 (SBl l k)) := HZ.out.cells k hlt
      have cx : (w5.drewN q).cell? ⟨gx, k, none⟩ = some (.complex .f64 (fi (SAl l k)) (fi (SBl l k))) := HO5.out.cells k hlt
      obtain ⟨n1, n2, n3, n4⟩ := HNB.out k
      have hs := sumI_bd (NI l) 35184372088832 k (fun t ht => (HNB.out t).2.2)
      obtain ⟨b1, b2, b3, b4⟩ := HBB.out (k - 1)
      have oa : (FloatKind.f64.format.order (fi (SAl l k)) (floatOfInt FloatKind.f64 (SAl l k)) != some Ordering.eq) = false := num_neq (not_nan_of_fin (fi_fin (by omega)))
      have ob : (FloatKind.f64.format.order (fi (SBl l k)) (floatOfInt FloatKind.f64 (SBl l k)) != some Ordering.eq) = false := num_neq (not_nan_of_fin (fi_fin (by omega)))
      have sa := sq_bd n1
      have sb := sq_bd n2
      have HNI : Hid (NI l k = SAl l k * SAl l k + SBl l k * SBl l k) := Lib.hid rfl
      have HBT : Hid (beatI l k = if 0 < k ∧ (beatI l (k - 1)).2 < NI l k then ((k : Int), NI l k) else beatI l (k - 1)) := Lib.hid (by
        cases k with
        | zero => rfl
        | succ k => simp only [Nat.add_sub_cancel]; rw [show beatI l (k + 1) = if (beatI l k).2 < NI l (k + 1) then (((k + 1 : Nat) : Int), NI l (k + 1)) else beatI l k from rfl]; simp)
      have HSS : Hid (sumI (NI l) (k + 1) = sumI (NI l) k + NI l k) := Lib.hid rfl
      generalize sumI (NI l) k = S at hs HSS ⊢
      generalize beatI l (k - 1) = bt at b1 b2 b3 b4 HBT ⊢
      generalize SAl l k = a at *
      generalize SBl l k = b at *
      obtain ⟨pa, hpa⟩ : ∃ p, a * a = p := ⟨_, rfl⟩
      obtain ⟨pb, hpb⟩ : ∃ p, b * b = p := ⟨_, rfl⟩
      rw [hpa] at sa HNI
      rw [hpb] at sb HNI
      have wa : IntKind.i64.wrap (a * a) = pa := by rw [hpa]; exact IntWalk.i64_in _ (by omega)
      have wb : IntKind.i64.wrap (b * b) = pb := by rw [hpb]; exact IntWalk.i64_in _ (by omega)
      have wab : IntKind.i64.wrap (pa + pb) = pa + pb := IntWalk.i64_in _ (by omega)
      have HN2 : Hid (NI l k = pa + pb) := HNI
      clear hpa hpb HNI n1 n2 n3 n4
      generalize hwq : w5.drewN q = wq at ca cb cx ⊢
      have HW := Lib.hid hwq
      clear hwq
      rw [HN2.out] at HBT HSS
      have hway : (0 < k ∧ bt.2 < pa + pb) ∨ (0 < k ∧ pa + pb ≤ bt.2) ∨ k ≤ 0 := by omega
      have HBT' : Hid (beatI l (k + 1 - 1) = if 0 < k ∧ bt.2 < pa + pb then ((k : Int), pa + pb) else bt) := HBT
      clear HBT
      rcases hway with ⟨h1, h2⟩ | ⟨h1, h2⟩ | h1
      all_goals
        go_wp2
        go_quiet (fail)
        go_wp2
        go_quiet (fail)
        go_wp2
        go_roundw
        case rel =>
          refine ⟨k + 1, by go_num, by omega, ?_, ?_, by rw [HSS.out], _, by rw [← HW.out]; exact (World.drewN_drewN _ _ _)⟩
          · rw [HBT'.out]
            split <;> first | rfl | (exfalso; omega)
          · rw [HBT'.out]
            split <;> first | rfl | (exfalso; omega)
        case measure => simp [intOf]; omega
    · obtain rfl : k = 4 := by omega
      have B6 := below_drewN B5 q
      have HO6 := Lib.hid (HO5.out.drewN q)
      have HC6 : Hid (IntAt (w5.drewN q) w.heap.size l) := Lib.hid ⟨HC5.out.cells, HC5.out.lt⟩
      generalize w5.drewN q = w6 at B6 HO6 HC6 ⊢
      have x0 := HO6.out.cells 0 (by omega)
      have x1 := HO6.out.cells 1 (by omega)
      have x2 := HO6.out.cells 2 (by omega)
      have x3 := HO6.out.cells 3 (by omega)
      rw [HSQ.out]
      have hQ := sumI_bd (fun t => l t * l t) 17592186044416 4 (fun t ht => sq_bd (by have := HL.out t ht; omega))
      clear HA HZ HO5 HC5 B5 HSQ hlt hk
      go_wp2_with fail
      refine (HBK.out _).mono ?_
      rintro e w7 ⟨rfl, b7⟩
      have B7 := B6.trans (b7.mono B6.size)
      have HC7 := Lib.hid (HC6.out.below b7)
      obtain ⟨w8, HE8, HO8, HC8, B8⟩ : ∃ w8, Hid (w7.alloc (.cells #[.complex .f64 (fi (l 0)) 0, .complex .f64 (fi (l 1)) 0, .complex .f64 (fi (l 2)) 0, .complex .f64 (fi (l 3)) 0] 47) = w8) ∧ Hid (OutAt w8 w7.heap.size (fun k => (fi (l k), 0))) ∧ Hid (IntAt w8 w.heap.size l) ∧ Below w.heap.size w w8 := by
        refine ⟨_, Lib.hid rfl, Lib.hid ⟨fun k hk => ?_, fun k hk => ?_, by simp⟩, Lib.hid (HC7.out.below ((Below.refl _ _).alloc (Nat.le_refl _) _)), B7.alloc B7.size _⟩
        all_goals (rcases k4 hk with rfl | rfl | rfl | rfl <;> simp [go_sem])
      clear x0 x1 x2 x3 b7 HO6 HC6 B6 HC7 B7
      go_wp2
      rw [HE8.out]
      clear HE8
      generalize w7.heap.size = gy at HO8 ⊢
      go_loopw [16, 17] (fun x16 x17 wi => ∃ k : Nat, x17 = .int .i64 k ∧ k ≤ 4 ∧ x16 = .int .i64 (sumI (fun t => l t * l t) k) ∧ ∃ q, wi = w8.drewN q) (fun _ x17 _ => 4 - (intOf x17).toNat)
      case atStart => exact ⟨0, rfl, by omega, rfl, 0, rfl⟩
      case round =>
        obtain ⟨k, rfl, hk, rfl, q, rfl⟩ := hrel
        by_cases hlt : k < 4
        · have hli : (k : Int) < 4 := by omega
          have cl : (w8.drewN q).cell? ⟨w.heap.size, k, none⟩ = some (.int .i64 (l k)) := HC8.out.cells k hlt
          have cy : (w8.drewN q).cell? ⟨gy, k, none⟩ = some (.complex .f64 (fi (l k)) 0) := HO8.out.cells k hlt
          have hlk := HL.out k hlt
          have hs := sumI_bd (fun t => l t * l t) 17592186044416 k (fun t ht => sq_bd (by have := HL.out t (by omega); omega))
          have oa : (FloatKind.f64.format.order (fi (l k)) (floatOfInt FloatKind.f64 (l k)) != some Ordering.eq) = false := num_neq (not_nan_of_fin (fi_fin (by omega)))
          have ob : (FloatKind.f64.format.order 0 0 != some Ordering.eq) = false := by decide +kernel
          have HSS : Hid (sumI (fun t => l t * l t) (k + 1) = sumI (fun t => l t * l t) k + l k * l k) := Lib.hid rfl
          have sa := sq_bd (x := l k) (by omega)
          generalize sumI (fun t => l t * l t) k = S at hs HSS ⊢
          generalize l k = a at *
          obtain ⟨pa, hpa⟩ : ∃ p, a * a = p := ⟨_, rfl⟩
          rw [hpa] at sa HSS
          have wa : IntKind.i64.wrap (a * a) = pa := by rw [hpa]; exact IntWalk.i64_in _ (by omega)
          have wb : IntKind.i64.wrap (S + pa) = S + pa := IntWalk.i64_in _ (by omega)
          clear hpa
          generalize hwq : w8.drewN q = wq at cl cy ⊢
          have HW := Lib.hid hwq
          clear hwq
          go_wp2
          go_quiet (fail)
          go_wp2
          go_quiet (fail)
          go_wp2
          go_roundw
          case rel => exact ⟨k + 1, by go_num, by omega, by rw [HSS.out], _, by rw [← HW.out]; exact (World.drewN_drewN _ _ _)⟩
          case measure => simp [intOf]; omega
        · obtain rfl : k = 4 := by omega
          have B9 := below_drewN B8 q
          generalize w8.drewN q = w9 at B9 ⊢
          generalize sumI (fun t => l t * l t) 4 = Q at hQ ⊢
          go_wp2_with fail
          refine (awake07 _).mono ?_
          rintro e w10 ⟨rfl, b10⟩
          have B10 := B9.trans (b10.mono B9.size)
          go_wp2
          go_ret
          exact ⟨rfl, B10⟩
section
variable {H : Type} {enc : TypeId × Value → H}
theorem array4 (cs : Array Value) (h : cs.size = 4) : ∃ c0 c1 c2 c3, cs = #[c0, c1, c2, c3] := by
  obtain ⟨l⟩ := cs
  match l, h with
  | [c0, c1, c2, c3], _ => exact ⟨c0, c1, c2, c3, rfl⟩
theorem okWide_arr {P : Program} {w : World} {r : Reach} {b0 : Nat} {t e : TypeId} {n : Nat} {v : Value} (ht : P.underlying t = some (.array n e)) (h : Value.okWide P w r b0 t v) : ∃ cs, v = .agg cs ∧ cs.size = P.cellsOf t := by
  simp only [Value.okWide, ht] at h
  obtain ⟨cs, h1, h2, _⟩ := h
  exact ⟨cs, h1, h2⟩
theorem open_ints4 {w : World} {r : Reach} {b0 : Nat} {v : Value} {d : DataW H} {p : List MemPlace} (hok : Value.okWide Try.prog w r b0 46 v) (h : DataW.Trod enc Try.prog w 0 (fun _ => true) true 46 v d p) :
    ∃ l : Nat → Int, v = .agg #[.int .i64 (l 0), .int .i64 (l 1), .int .i64 (l 2), .int .i64 (l 3)] := by
  obtain ⟨cs, rfl, hsz⟩ := okWide_arr Try.underlying46 hok
  obtain ⟨c0, c1, c2, c3, rfl⟩ := array4 cs (hsz.trans (by kernel_rfl))
  obtain ⟨fuel, hf⟩ := h
  have hf' : DataW.trod enc Try.prog w 0 (fun _ => true) true fuel 46 [c0, c1, c2, c3] = some (d, p) := by simpa [Value.cells] using hf
  obtain ⟨y0, y1, y2, y3, m, _, h0, h1, h2, h3⟩ := trod_array4 Try.underlying46 (by kernel_rfl) hf'
  obtain ⟨x0, rfl, w0⟩ := field_int Try.underlying3 h0
  obtain ⟨x1, rfl, w1⟩ := field_int Try.underlying3 h1
  obtain ⟨x2, rfl, w2⟩ := field_int Try.underlying3 h2
  obtain ⟨x3, rfl, w3⟩ := field_int Try.underlying3 h3
  exact ⟨fun t => if t = 0 then x0 else if t = 1 then x1 else if t = 2 then x2 else x3, rfl⟩
end
theorem phaseSpectra_walk {H : Type} {enc : TypeId × Value → H} {r : Reach} {b0 : Nat} (v : Value) (d : DataW H) (p : List MemPlace) (w : World)
    (hok : Value.okWide Try.prog w r b0 46 v) (h : DataW.Trod enc Try.prog w 0 (fun _ => true) true 46 v d p) :
    Calls Try.prog 6 #[v] w fun e w' => e = .returned (.bool true) ∧ Below w.heap.size w w' := by
  obtain ⟨l, rfl⟩ := open_ints4 hok h
  by_cases g0 : 0 ≤ l 0 ∧ l 0 ≤ 1048576
  · by_cases g1 : 0 ≤ l 1 ∧ l 1 ≤ 1048576
    · by_cases g2 : 0 ≤ l 2 ∧ l 2 ≤ 1048576
      · by_cases g3 : 0 ≤ l 3 ∧ l 3 ≤ 1048576
        · exact phaseSpectra_ok l w (fun t ht => by rcases k4 ht with rfl | rfl | rfl | rfl <;> assumption)
        · exact phaseSpectra_no l w 3 (by omega) (fun t ht => by
            have : t = 0 ∨ t = 1 ∨ t = 2 := by omega
            rcases this with rfl | rfl | rfl <;> assumption) g3
      · exact phaseSpectra_no l w 2 (by omega) (fun t ht => by
          have : t = 0 ∨ t = 1 := by omega
          rcases this with rfl | rfl <;> assumption) g2
    · exact phaseSpectra_no l w 1 (by omega) (fun t ht => by
        have : t = 0 := by omega
        subst this; assumption) g1
  · exact phaseSpectra_no l w 0 (by omega) (fun t ht => absurd ht (by omega)) g0
end Go.Proofs.Ytlhcbbcgnkpknaa
