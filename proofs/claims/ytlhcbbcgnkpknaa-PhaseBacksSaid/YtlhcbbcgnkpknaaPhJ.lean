/- Contracts (cellaret): counts that may be, the reference's spectrum, a spectrum's way back. -/
import Derived.Test.YtlhcbbcgnkpknaaPhI
namespace Go.Proofs.Ytlhcbbcgnkpknaa
open Go.RowKit
set_option linter.unusedVariables false
attribute [local go_sem] unary_negf run_store_complex run_store_float
attribute [local go_sem ↓] Go.wp_at_zero Go.wp_at_succ

theorem right_ok (l : Nat → Int) (w : World) (hl : ∀ t, t < 4 → 0 ≤ l t ∧ l t ≤ 1048576) :
    Calls Try.prog 23 #[.agg #[.int .i64 (l 0), .int .i64 (l 1), .int .i64 (l 2), .int .i64 (l 3)]] w fun e w' => e = .returned (.bool true) ∧ Below w.heap.size w w' := by
  have HL := Lib.hid hl
  obtain ⟨w0, HE, c0, c1, c2, c3, B0⟩ := box4 (w := w) (T := 46) (.int .i64 (l 0)) (.int .i64 (l 1)) (.int .i64 (l 2)) (.int .i64 (l 3))
  have HC : Hid (∀ k, k < 4 → w0.cell? ⟨w.heap.size, k, none⟩ = some (.int .i64 (l k))) := Lib.hid (fun k hk => by rcases k4 hk with rfl | rfl | rfl | rfl <;> assumption)
  clear hl c0 c1 c2 c3
  go_enter Try.func23, Try.ntmps23
  go_wp2
  rw [HE.out]
  clear HE
  go_loopw [3] (fun x9 wi => ∃ k : Nat, x9 = .int .i64 k ∧ k ≤ 4 ∧ wi = w0) (fun x9 _ => 4 - (intOf x9).toNat)
  case atStart => exact ⟨0, rfl, by omega, rfl⟩
  case round =>
    obtain ⟨k, rfl, hk, rfl⟩ := hrel
    by_cases hlt : k < 4
    · have hli : (k : Int) < 4 := by omega
      have ck := HC.out k hlt
      have hb := HL.out k hlt
      generalize l k = m at ck hb
      obtain ⟨h1, h2⟩ := hb
      go_wp2
      go_roundw
      case rel => exact ⟨k + 1, by go_num, by omega, trivial⟩
      case measure => simp [intOf]; omega
    · obtain rfl : k = 4 := by omega
      go_wp2
      go_ret
      exact ⟨rfl, B0⟩
theorem right_no (l : Nat → Int) (w : World) (i : Nat) (hi : i < 4) (hl : ∀ t, t < i → 0 ≤ l t ∧ l t ≤ 1048576) (hb : ¬ (0 ≤ l i ∧ l i ≤ 1048576)) :
    Calls Try.prog 23 #[.agg #[.int .i64 (l 0), .int .i64 (l 1), .int .i64 (l 2), .int .i64 (l 3)]] w fun e w' => e = .returned (.bool false) ∧ Below w.heap.size w w' := by
  have HL := Lib.hid hl
  obtain ⟨w0, HE, c0, c1, c2, c3, B0⟩ := box4 (w := w) (T := 46) (.int .i64 (l 0)) (.int .i64 (l 1)) (.int .i64 (l 2)) (.int .i64 (l 3))
  have HC : Hid (∀ k, k < 4 → w0.cell? ⟨w.heap.size, k, none⟩ = some (.int .i64 (l k))) := Lib.hid (fun k hk => by rcases k4 hk with rfl | rfl | rfl | rfl <;> assumption)
  have HB : Hid (l i < 0 ∨ (0 ≤ l i ∧ 1048576 < l i)) := Lib.hid (by omega)
  clear hl c0 c1 c2 c3 hb
  go_enter Try.func23, Try.ntmps23
  go_wp2
  rw [HE.out]
  clear HE
  go_loopw [3] (fun x9 wi => ∃ k : Nat, x9 = .int .i64 k ∧ k ≤ i ∧ wi = w0) (fun x9 _ => 4 - (intOf x9).toNat)
  case atStart => exact ⟨0, rfl, by omega, rfl⟩
  case round =>
    obtain ⟨k, rfl, hk, rfl⟩ := hrel
    have hlt : k < 4 := by omega
    have hli : (k : Int) < 4 := by omega
    have ck := HC.out k hlt
    by_cases hki : k < i
    · have hb := HL.out k hki
      generalize l k = m at ck hb
      obtain ⟨h1, h2⟩ := hb
      go_wp2
      go_roundw
      case rel => exact ⟨k + 1, by go_num, by omega, trivial⟩
      case measure => simp [intOf]; omega
    · obtain rfl : k = i := by omega
      have hb := HB.out
      clear HB
      generalize l k = m at ck hb
      rcases hb with h1 | ⟨h1, h2⟩
      all_goals
        go_wp2
        go_ret
        exact ⟨rfl, B0⟩
structure IntAt (w : World) (g : Nat) (f : Nat → Int) : Prop where
  cells : ∀ k, k < 4 → w.cell? ⟨g, k, none⟩ = some (.int .i64 (f k))
  lt : g < w.heap.size
theorem IntAt.below {w w' : World} {g : Nat} {f : Nat → Int} (h : IntAt w g f) (hb : Below w.heap.size w w') : IntAt w' g f :=
  ⟨fun k hk => (hb.cell (p := ⟨g, k, none⟩) h.lt).trans (h.cells k hk), Nat.lt_of_lt_of_le h.lt hb.size⟩
theorem IntAt.congr {w : World} {g : Nat} {f h : Nat → Int} (H : IntAt w g f) (e : ∀ k, k < 4 → f k = h k) : IntAt w g h := ⟨fun k hk => by rw [H.cells k hk, e k hk], H.lt⟩
theorem S0 (l : Nat → Int) : SAl l 0 = l 0 + l 1 + l 2 + l 3 ∧ SAl l 1 = l 0 - l 2 ∧ SAl l 2 = l 0 - l 1 + l 2 - l 3 ∧ SAl l 3 = l 0 - l 2 ∧ SBl l 0 = 0 ∧ SBl l 1 = l 3 - l 1 ∧ SBl l 2 = 0 ∧ SBl l 3 = l 1 - l 3 := by
  simp [SAl, SBl, SA, SB, sumI, qrt, turnI]
  omega
set_option maxHeartbeats 1000000 in
theorem rspec_any (l : Nat → Int) (w : World) (hl : ∀ t, t < 4 → 0 ≤ l t ∧ l t ≤ 1048576) :
    Calls Try.prog 24 #[.agg #[.int .i64 (l 0), .int .i64 (l 1), .int .i64 (l 2), .int .i64 (l 3)]] w fun e w' =>
      ∃ g1 g2, e = .returned (.tuple #[.slice (some ⟨g1, 0, none⟩) 4 4, .slice (some ⟨g2, 0, none⟩) 4 4]) ∧ IntAt w' g1 (SAl l) ∧ IntAt w' g2 (SBl l) ∧ Below w.heap.size w w' := by
  obtain ⟨a0, b0⟩ := hl 0 (by omega)
  obtain ⟨a1, b1⟩ := hl 1 (by omega)
  obtain ⟨a2, b2⟩ := hl 2 (by omega)
  obtain ⟨a3, b3⟩ := hl 3 (by omega)
  have HS := Lib.hid (S0 l)
  clear hl
  have HW : Hid (∀ x0 x1 x2 x3 y0 y1 y2 y3 : Int, x0 = SAl l 0 → x1 = SAl l 1 → x2 = SAl l 2 → x3 = SAl l 3 → y0 = SBl l 0 → y1 = SBl l 1 → y2 = SBl l 2 → y3 = SBl l 3 → ∀ (w1 w3 : World), ((w1.alloc (.cells #[.int .i64 x0, .int .i64 x1, .int .i64 x2, .int .i64 x3] 3)).alloc (.cells #[.int .i64 y0, .int .i64 y1, .int .i64 y2, .int .i64 y3] 3)) = w3 → IntAt w3 w1.heap.size (SAl l) ∧ IntAt w3 (w1.heap.size + 1) (SBl l)) := Lib.hid (by
    rintro x0 x1 x2 x3 y0 y1 y2 y3 rfl rfl rfl rfl rfl rfl rfl rfl w1 w3 rfl
    refine ⟨⟨fun k hk => ?_, by simp; omega⟩, ⟨fun k hk => ?_, by simp⟩⟩
    all_goals (rcases k4 hk with rfl | rfl | rfl | rfl <;> simp [go_sem]))
  generalize l 0 = m0 at *
  generalize l 1 = m1 at *
  generalize l 2 = m2 at *
  generalize l 3 = m3 at *
  go_enter Try.func24, Try.ntmps24
  go_wp2
  go_ret2
  obtain ⟨s0, s1, s2, s3, t0, t1, t2, t3⟩ := HS.out
  have := HW.out _ _ _ _ _ _ _ _ s0.symm s1.symm s2.symm s3.symm t0.symm t1.symm t2.symm t3.symm (w.alloc (.cells #[.int .i64 m0, .int .i64 m1, .int .i64 m2, .int .i64 m3] 46)) _ rfl
  have e : (w.alloc (.cells #[.int .i64 m0, .int .i64 m1, .int .i64 m2, .int .i64 m3] 46)).heap.size = w.heap.size + 1 := by simp
  rw [e] at this
  exact ⟨_, _, rfl, this.1, this.2, (((Below.refl _ _).alloc (Nat.le_refl _) _).alloc (by simp) _).alloc (by simp; omega) _⟩
/-- Four numbers times a quarter. -/
def Quart (z r : Nat × Nat) : Prop := FAns (fmul z.1 4598175219545276416) r.1 ∧ FAns (fmul z.2 4598175219545276416) r.2
set_option maxRecDepth 100000 in
set_option maxHeartbeats 2000000 in
theorem back_no (x : Nat → Nat × Nat) (w : World) (i : Nat) (hi : i < 4) (hx : ∀ t, t < 4 → (x t).1 < 18446744073709551616 ∧ (x t).2 < 18446744073709551616) (hl : ∀ t, t < i → (isFin (x t).1 && isFin (x t).2) = true) (hb : (isFin (x i).1 && isFin (x i).2) = false) :
    Calls Try.prog 25 #[.agg #[.complex .f64 (x 0).1 (x 0).2, .complex .f64 (x 1).1 (x 1).2, .complex .f64 (x 2).1 (x 2).2, .complex .f64 (x 3).1 (x 3).2]] w fun e w' =>
      e = .returned (.tuple #[.agg #[.complex .f64 0 0, .complex .f64 0 0, .complex .f64 0 0, .complex .f64 0 0], .int .i64 20]) ∧ Below w.heap.size w w' := by
  have HL := Lib.hid hl
  have HX := Lib.hid hx
  have HB := Lib.hid hb
  obtain ⟨w2, HE, HR, B2⟩ : ∃ w2, Hid ((w.alloc (.cells #[.complex .f64 (x 0).1 (x 0).2, .complex .f64 (x 1).1 (x 1).2, .complex .f64 (x 2).1 (x 2).2, .complex .f64 (x 3).1 (x 3).2] 47)).alloc (.cells #[.complex .f64 0 0, .complex .f64 0 0, .complex .f64 0 0, .complex .f64 0 0] 47) = w2) ∧ Hid (OutAt w2 (w.heap.size + 1) (fun _ => (0, 0)) ∧ OutAt w2 w.heap.size x) ∧ Below w.heap.size w w2 := by
    refine ⟨_, Lib.hid rfl, Lib.hid ⟨⟨fun k hk => ?_, fun k hk => ?_, by simp⟩, ⟨fun k hk => ?_, fun k hk => ?_, by simp; omega⟩⟩, ((Below.refl _ _).alloc (Nat.le_refl _) _).alloc (by simp) _⟩
    all_goals (rcases k4 hk with rfl | rfl | rfl | rfl <;> simp [go_sem])
  have x0 := HR.out.2.cells 0 (by omega)
  have x1 := HR.out.2.cells 1 (by omega)
  have x2 := HR.out.2.cells 2 (by omega)
  have x3 := HR.out.2.cells 3 (by omega)
  have r0 := HR.out.1.cells 0 (by omega)
  have r1 := HR.out.1.cells 1 (by omega)
  have r2 := HR.out.1.cells 2 (by omega)
  have r3 := HR.out.1.cells 3 (by omega)
  have s0 := HR.out.1.free 0 (by omega)
  have s1 := HR.out.1.free 1 (by omega)
  have s2 := HR.out.1.free 2 (by omega)
  have s3 := HR.out.1.free 3 (by omega)
  clear hl hx hb
  go_enter Try.func25, Try.ntmps25
  go_wp2
  rw [HE.out]
  clear HE
  go_wp2
  go_loopw [10] (fun x9 wi => ∃ k : Nat, x9 = .int .i64 k ∧ k ≤ i ∧ wi = w2) (fun x9 _ => 4 - (intOf x9).toNat)
  case atStart => exact ⟨0, rfl, by omega, rfl⟩
  case round =>
    obtain ⟨k, rfl, hk, rfl⟩ := hrel
    have hlt : k < 4 := by omega
    have hli : (k : Int) < 4 := by omega
    have ix := index4c x k hlt
    have hx' := HX.out k hlt
    have HC := Lib.hid (fun w => counts_any (x k).1 (x k).2 w hx'.1 hx'.2)
    by_cases hki : k < i
    · rw [HL.out k hki] at HC
      go_wp2_with fail
      refine (HC.out _).mono ?_
      rintro e w3 ⟨rfl, rfl⟩
      go_wp2
      go_roundw
      case rel => exact ⟨k + 1, by go_num, by omega, trivial⟩
      case measure => simp [intOf]; omega
    · obtain rfl : k = i := by omega
      rw [HB.out] at HC
      go_wp2_with fail
      refine (HC.out _).mono ?_
      rintro e w3 ⟨rfl, rfl⟩
      go_wp2
      refine bodyPost_ret (v := .tuple #[.agg #[.complex .f64 0 0, .complex .f64 0 0, .complex .f64 0 0, .complex .f64 0 0], .int .i64 20]) (by simp [results, Try.results25, go_sem, r0, r1, r2, r3]) rfl ⟨rfl, ?_⟩
      exact (((B2.setCell (p := ⟨w.heap.size + 1, 0, none⟩) (by show w.heap.size ≤ w.heap.size + 1; omega) _).setCell (p := ⟨w.heap.size + 1, 1, none⟩) (by show w.heap.size ≤ w.heap.size + 1; omega) _).setCell (p := ⟨w.heap.size + 1, 2, none⟩) (by show w.heap.size ≤ w.heap.size + 1; omega) _).setCell (p := ⟨w.heap.size + 1, 3, none⟩) (by show w.heap.size ≤ w.heap.size + 1; omega) _
def mixF (G F : Nat → Nat × Nat) (k j : Nat) : Nat × Nat := if j < k then G j else F j
set_option maxRecDepth 100000 in
set_option maxHeartbeats 4000000 in
theorem back_ok (x : Nat → Nat × Nat) (w : World) (hx : ∀ t, t < 4 → (x t).1 < 18446744073709551616 ∧ (x t).2 < 18446744073709551616) (hl : ∀ t, t < 4 → (isFin (x t).1 && isFin (x t).2) = true) :
    Calls Try.prog 25 #[.agg #[.complex .f64 (x 0).1 (x 0).2, .complex .f64 (x 1).1 (x 1).2, .complex .f64 (x 2).1 (x 2).2, .complex .f64 (x 3).1 (x 3).2]] w fun e w' =>
      ∃ G : Nat → Nat × Nat, e = .returned (.tuple #[.agg #[.complex .f64 (G 0).1 (G 0).2, .complex .f64 (G 1).1 (G 1).2, .complex .f64 (G 2).1 (G 2).2, .complex .f64 (G 3).1 (G 3).2], .int .i64 0]) ∧ (∀ t, t < 4 → ∃ z, Chain (wave x 1 t) 4 z ∧ Quart z (G t)) ∧ Below w.heap.size w w' := by
  have HL := Lib.hid hl
  have HX := Lib.hid hx
  obtain ⟨w2, HE, HR, B2⟩ : ∃ w2, Hid ((w.alloc (.cells #[.complex .f64 (x 0).1 (x 0).2, .complex .f64 (x 1).1 (x 1).2, .complex .f64 (x 2).1 (x 2).2, .complex .f64 (x 3).1 (x 3).2] 47)).alloc (.cells #[.complex .f64 0 0, .complex .f64 0 0, .complex .f64 0 0, .complex .f64 0 0] 47) = w2) ∧ Hid (OutAt w2 (w.heap.size + 1) (fun _ => (0, 0)) ∧ OutAt w2 w.heap.size x) ∧ Below w.heap.size w w2 := by
    refine ⟨_, Lib.hid rfl, Lib.hid ⟨⟨fun k hk => ?_, fun k hk => ?_, by simp⟩, ⟨fun k hk => ?_, fun k hk => ?_, by simp; omega⟩⟩, ((Below.refl _ _).alloc (Nat.le_refl _) _).alloc (by simp) _⟩
    all_goals (rcases k4 hk with rfl | rfl | rfl | rfl <;> simp [go_sem])
  have x0 := HR.out.2.cells 0 (by omega)
  have x1 := HR.out.2.cells 1 (by omega)
  have x2 := HR.out.2.cells 2 (by omega)
  have x3 := HR.out.2.cells 3 (by omega)
  have hs2 : w.heap.size + 1 < w2.heap.size := HR.out.1.lt
  clear hl hx
  go_enter Try.func25, Try.ntmps25
  go_wp2
  rw [HE.out]
  clear HE
  go_wp2
  go_loopw [10] (fun x9 wi => ∃ k : Nat, x9 = .int .i64 k ∧ k ≤ 4 ∧ wi = w2) (fun x9 _ => 4 - (intOf x9).toNat)
  case atStart => exact ⟨0, rfl, by omega, rfl⟩
  case round =>
    obtain ⟨k, rfl, hk, rfl⟩ := hrel
    by_cases hlt : k < 4
    · have hli : (k : Int) < 4 := by omega
      have ix := index4c x k hlt
      have hx' := HX.out k hlt
      have HC := Lib.hid (fun w => counts_any (x k).1 (x k).2 w hx'.1 hx'.2)
      rw [HL.out k hlt] at HC
      go_wp2_with fail
      refine (HC.out _).mono ?_
      rintro e w3 ⟨rfl, rfl⟩
      go_wp2
      go_roundw
      case rel => exact ⟨k + 1, by go_num, by omega, trivial⟩
      case measure => simp [intOf]; omega
    · obtain rfl : k = 4 := by omega
      go_wp2_with fail
      refine (waves_any x 1 _ (.inl rfl)).mono ?_
      rintro e w9 ⟨F, rfl, hF, b9⟩
      have HF := Lib.hid hF
      have HR9 := Lib.hid (HR.out.1.below b9)
      have B9 := B2.trans (b9.mono B2.size)
      obtain ⟨w10, HE, HO, HR10, B10⟩ : ∃ w10, Hid (w9.alloc (.cells #[.complex .f64 (F 0).1 (F 0).2, .complex .f64 (F 1).1 (F 1).2, .complex .f64 (F 2).1 (F 2).2, .complex .f64 (F 3).1 (F 3).2] 47) = w10) ∧ Hid (OutAt w10 w9.heap.size F) ∧ Hid (OutAt w10 (w.heap.size + 1) (fun _ => (0, 0))) ∧ Below w.heap.size w w10 := by
        refine ⟨_, Lib.hid rfl, Lib.hid ⟨fun k hk => ?_, fun k hk => ?_, by simp⟩, Lib.hid (HR9.out.below ((Below.refl _ _).alloc (Nat.le_refl _) _)), B9.alloc B9.size _⟩
        all_goals (rcases k4 hk with rfl | rfl | rfl | rfl <;> simp [go_sem])
      have hs9 : w.heap.size + 1 < w9.heap.size := HR9.out.lt
      have g0 := HO.out.cells 0 (by omega)
      have g1 := HO.out.cells 1 (by omega)
      have g2 := HO.out.cells 2 (by omega)
      have g3 := HO.out.cells 3 (by omega)
      clear hF b9 x0 x1 x2 x3 B9 HR9
      go_wp2
      rw [HE.out]
      clear HE
      generalize w9.heap.size = g at HO hs9 g0 g1 g2 g3 ⊢
      go_wp2
      clear g0 g1 g2 g3
      go_loopw [21] (fun x9 wi => ∃ k : Nat, x9 = .int .i64 k ∧ k ≤ 4 ∧ (∃ G, Hid (OutAt wi g (mixF G F k)) ∧ Hid (∀ t, t < k → Quart (F t) (G t))) ∧ Below g w10 wi) (fun x9 _ => 4 - (intOf x9).toNat)
      case atStart => exact ⟨0, rfl, by omega, ⟨F, Lib.hid (HO.out.congr (fun j _ => by unfold mixF; split <;> rfl)), Lib.hid (fun t ht => absurd ht (by omega))⟩, Below.refl _ _⟩
      case round =>
        obtain ⟨k, rfl, hk, ⟨G, HG, HQ⟩, hbw⟩ := hrel
        clear HO
        by_cases hlt : k < 4
        · have hli : (k : Int) < 4 := by omega
          have ix := index4c F k hlt
          have c0 := HG.out.cells k hlt
          have f0 := HG.out.free k hlt
          have e0 : mixF G F k k = F k := by unfold mixF; rw [if_neg (by omega)]
          rw [e0] at c0
          clear e0
          go_wp2_with fail
          refine (times_any _ _ _).mono ?_
          rintro e w3 ⟨r, d1, rfl, hr, rfl⟩
          have K1 := Lib.hid hr
          clear hr
          go_wp2_with fail
          refine (times_any _ _ _).mono ?_
          rintro e w3 ⟨s, d2, rfl, hs, rfl⟩
          have K2 := Lib.hid hs
          clear hs
          have HP : ∀ d, Hid (OutAt ((wr.drewN d).setCell ⟨g, k, none⟩ (.complex .f64 r s)) g (mixF (fun j => if j = k then (r, s) else G j) F (k + 1))) := fun d => Lib.hid (((HG.out.drewN d).put k hlt r s).congr (fun j hj => by
            unfold mixF
            by_cases e : j = k
            · subst e; simp
            · rw [if_neg e]
              by_cases e' : j < k
              · rw [if_pos e', if_pos (by omega)]
                show G j = if j = k then (r, s) else G j
                rw [if_neg e]
              · rw [if_neg e', if_neg (by omega)]))
          have HPP := Lib.hid HP
          clear HP
          go_wp2
          go_roundw
          case rel => exact ⟨k + 1, by go_num, by omega, ⟨_, HPP.out _, Lib.hid (fun t ht => by
              by_cases e : t = k
              · subst e; simp only [if_true]; exact ⟨K1.out, K2.out⟩
              · simp only [if_neg e]; exact HQ.out t (by omega))⟩, (below_drewN hbw _).setCell (p := ⟨g, k, none⟩) (Nat.le_refl _) _⟩
          case measure => simp [intOf]; omega
        · obtain rfl : k = 4 := by omega
          have HG4 := Lib.hid (HG.out.congr (G := G) (fun j hj => if_pos hj))
          have g0 := HG4.out.cells 0 (by omega)
          have g1 := HG4.out.cells 1 (by omega)
          have g2 := HG4.out.cells 2 (by omega)
          have g3 := HG4.out.cells 3 (by omega)
          have hc : ∀ k, k < 4 → wr.cell? ⟨w.heap.size + 1, k, none⟩ = some (.complex .f64 0 0) ∧ wr.frozen? ⟨w.heap.size + 1, k, none⟩ = false := fun k hk => ⟨(hbw.cell (p := ⟨w.heap.size + 1, k, none⟩) hs9).trans (HR10.out.cells k hk), (hbw.frozen (p := ⟨w.heap.size + 1, k, none⟩) hs9).trans (HR10.out.free k hk)⟩
          obtain ⟨r0, s0⟩ := hc 0 (by omega)
          obtain ⟨r1, s1⟩ := hc 1 (by omega)
          obtain ⟨r2, s2⟩ := hc 2 (by omega)
          obtain ⟨r3, s3⟩ := hc 3 (by omega)
          have hBB : Below w.heap.size w wr := B10.trans (hbw.mono (by omega))
          clear hc
          go_wp2
          refine bodyPost_ret (v := .tuple #[.agg #[.complex .f64 (G 0).1 (G 0).2, .complex .f64 (G 1).1 (G 1).2, .complex .f64 (G 2).1 (G 2).2, .complex .f64 (G 3).1 (G 3).2], .int .i64 0]) (by simp [results, Try.results25, go_sem, r0, r1, r2, r3]) rfl ⟨G, rfl, fun t ht => ⟨F t, HF.out t ht, HQ.out t ht⟩, ?_⟩
          exact (((hBB.setCell (p := ⟨w.heap.size + 1, 0, none⟩) (by show w.heap.size ≤ w.heap.size + 1; omega) _).setCell (p := ⟨w.heap.size + 1, 1, none⟩) (by show w.heap.size ≤ w.heap.size + 1; omega) _).setCell (p := ⟨w.heap.size + 1, 2, none⟩) (by show w.heap.size ≤ w.heap.size + 1; omega) _).setCell (p := ⟨w.heap.size + 1, 3, none⟩) (by show w.heap.size ≤ w.heap.size + 1; omega) _
end Go.Proofs.Ytlhcbbcgnkpknaa
