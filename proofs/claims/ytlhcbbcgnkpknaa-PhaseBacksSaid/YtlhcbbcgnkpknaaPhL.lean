/- The laws of layer 7 (cellaret): PhaseBacks. -/
import Derived.Test.YtlhcbbcgnkpknaaPhK
import Derived.Deep.RegionHeld3
namespace Go.Proofs.Ytlhcbbcgnkpknaa
open Go.RowKit Go.Deep Go.ChangeShapes Go.WideShapes
set_option linter.unusedVariables false
attribute [local go_sem] unary_negf run_store_complex run_store_float

structure FltAt (w : World) (g : Nat) (f : Nat → Nat) : Prop where
  cells : ∀ k, k < 4 → w.cell? ⟨g, k, none⟩ = some (.float .f64 (f k))
  lt : g < w.heap.size
theorem FltAt.below {w w' : World} {g : Nat} {f : Nat → Nat} (h : FltAt w g f) (hb : Below w.heap.size w w') : FltAt w' g f :=
  ⟨fun k hk => (hb.cell (p := ⟨g, k, none⟩) h.lt).trans (h.cells k hk), Nat.lt_of_lt_of_le h.lt hb.size⟩
theorem FltAt.keep {w w' : World} {g B : Nat} {f : Nat → Nat} (h : FltAt w g f) (hb : Below B w w') (hB : g < B) : FltAt w' g f :=
  ⟨fun k hk => (hb.cell (p := ⟨g, k, none⟩) hB).trans (h.cells k hk), Nat.lt_of_lt_of_le h.lt hb.size⟩
def partC (x : Nat → Nat × Nat) (i t : Nat) : Nat × Nat := if t < i then x t else (0, 0)
theorem back_init (x : Nat → Nat × Nat) (w : World) : ∃ w3, Hid (((w.alloc (.cells #[.float .f64 (x 0).1, .float .f64 (x 1).1, .float .f64 (x 2).1, .float .f64 (x 3).1] 57)).alloc (.cells #[.float .f64 (x 0).2, .float .f64 (x 1).2, .float .f64 (x 2).2, .float .f64 (x 3).2] 57)).alloc (.cells #[.complex .f64 0 0, .complex .f64 0 0, .complex .f64 0 0, .complex .f64 0 0] 47) = w3) ∧
      Hid (FltAt w3 w.heap.size (fun k => (x k).1)) ∧ Hid (FltAt w3 (w.heap.size + 1) (fun k => (x k).2)) ∧ Hid (OutAt w3 (w.heap.size + 1 + 1) (partC x 0)) ∧ w3.heap.size = w.heap.size + 1 + 1 + 1 ∧ Below w.heap.size w w3 := by
  refine ⟨_, Lib.hid rfl, Lib.hid ⟨fun k hk => ?_, by simp; omega⟩, Lib.hid ⟨fun k hk => ?_, by simp⟩, Lib.hid ⟨fun k hk => ?_, fun k hk => ?_, by simp⟩, by simp, (((Below.refl _ _).alloc (Nat.le_refl _) _).alloc (by simp) _).alloc (by simp; omega) _⟩
  all_goals (rcases k4 hk with rfl | rfl | rfl | rfl <;> simp [go_sem, partC])
set_option maxRecDepth 100000 in
set_option maxHeartbeats 4000000 in
theorem phaseBacks_no (x : Nat → Nat × Nat) (w : World) (i : Nat) (hi : i < 4) (hx : ∀ t, t < 4 → (x t).1 < 18446744073709551616 ∧ (x t).2 < 18446744073709551616) (hl : ∀ t, t < i → (isFin (x t).1 && isFin (x t).2) = true) (hb : (isFin (x i).1 && isFin (x i).2) = false) :
    Calls Try.prog 7 #[.agg #[.float .f64 (x 0).1, .float .f64 (x 1).1, .float .f64 (x 2).1, .float .f64 (x 3).1], .agg #[.float .f64 (x 0).2, .float .f64 (x 1).2, .float .f64 (x 2).2, .float .f64 (x 3).2]] w fun e w' => e = .returned (.bool true) ∧ Below w.heap.size w w' := by
  have HBK := Lib.hid (fun w => back_no x w i hi hx hl hb)
  have HL := Lib.hid hl
  have HX := Lib.hid hx
  have HB := Lib.hid hb
  obtain ⟨w3, HE, HF1, HF2, HO, hsz, B3⟩ := back_init x w
  clear hl hx hb
  go_enter Try.func7, Try.ntmps7
  go_wp2
  rw [HE.out]
  clear HE
  generalize hg : w.heap.size + 1 + 1 = g at HO hsz ⊢
  go_loopw [6, 7] (fun x6 x7 wi => ∃ k : Nat, x7 = .int .i64 k ∧ k ≤ 4 ∧ x6 = .bool (decide (k ≤ i)) ∧ Hid (OutAt wi g (partC x k)) ∧ Below g w3 wi) (fun _ x7 _ => 4 - (intOf x7).toNat)
  case atStart => exact ⟨0, rfl, by omega, by simp, HO, Below.refl _ _⟩
  case round =>
    obtain ⟨k, rfl, hk, rfl, HO1, hbw⟩ := hrel
    clear HO
    by_cases hlt : k < 4
    · have hli : (k : Int) < 4 := by omega
      have c1 := (HF1.out.keep hbw (by omega)).cells k hlt
      have c2 := (HF2.out.keep hbw (by omega)).cells k hlt
      have c0 := HO1.out.cells k hlt
      have f0 := HO1.out.free k hlt
      obtain ⟨hx1, hx2⟩ := HX.out k hlt
      have HRC := Lib.hid (fun w => rcounts_any (x k).1 (x k).2 w hx1 hx2)
      have HP : Hid (∀ d, OutAt ((wr.setCell ⟨g, k, none⟩ (.complex .f64 (x k).1 (x k).2)).drewN d) g (partC x (k + 1))) := Lib.hid (fun d => (((HO1.out).put k hlt (x k).1 (x k).2).congr (fun j hj => by
        unfold partC
        by_cases e : j = k
        · subst e; simp
        · simp only [if_neg e]
          by_cases e' : j < k
          · rw [if_pos e', if_pos (by omega)]
          · rw [if_neg e', if_neg (by omega)])).drewN d)
      have hne : (⟨w.heap.size, k, none⟩ : Addr) ≠ ⟨g, k, none⟩ := by intro e; simp only [Addr.mk.injEq] at e; omega
      have hne2 : (⟨w.heap.size + 1, k, none⟩ : Addr) ≠ ⟨g, k, none⟩ := by intro e; simp only [Addr.mk.injEq] at e; omega
      have d1 : ∀ v, (wr.setCell ⟨g, k, none⟩ v).cell? ⟨w.heap.size, k, none⟩ = some (.float .f64 (x k).1) := fun v => by rw [World.cell?_setCell_other _ _ _ _ hne.symm]; exact c1
      have d2 : ∀ v, (wr.setCell ⟨g, k, none⟩ v).cell? ⟨w.heap.size + 1, k, none⟩ = some (.float .f64 (x k).2) := fun v => by rw [World.cell?_setCell_other _ _ _ _ hne2.symm]; exact c2
      clear hne hne2
      by_cases hki : k < i
      · have hd : decide (k ≤ i) = true := decide_eq_true (by omega)
        have HD : Hid (decide (k + 1 ≤ i) = true) := Lib.hid (decide_eq_true (by omega))
        rw [HL.out k hki] at HRC
        go_wp2
        go_region_held3 (fun w' => w'.cell? ⟨w.heap.size, k, none⟩ = some (.float .f64 (x k).1) ∧ w'.cell? ⟨w.heap.size + 1, k, none⟩ = some (.float .f64 (x k).2)) (go_keep) (fail)
        all_goals
          obtain ⟨W, hW, e1, e2, HP2, hbw2⟩ : ∃ W, Hid ((wr.setCell ⟨g, k, none⟩ (.complex .f64 (x k).1 (x k).2)).drew = W) ∧ W.cell? ⟨w.heap.size, k, none⟩ = some (.float .f64 (x k).1) ∧ W.cell? ⟨w.heap.size + 1, k, none⟩ = some (.float .f64 (x k).2) ∧ Hid (∀ d, OutAt (W.drewN d) g (partC x (k + 1))) ∧ Below g w3 W :=
            ⟨_, Lib.hid rfl, d1 _, d2 _, Lib.hid (fun d => ⟨(HP.out 0).cells, (HP.out 0).free, (HP.out 0).lt⟩), (hbw.setCell (p := ⟨g, k, none⟩) (Nat.le_refl _) _).drew⟩
          clear d1 d2 c1 c2 c0 f0
          go_wp2
          rw [hW.out]
          clear hW
          go_quiet ((go_at_call 13; exact Calls.quiet_of (HRC.out _)))
          go_wp2
          go_roundw
          case rel => exact ⟨k + 1, by go_num, by omega, by rw [HD.out], Lib.hid (HP2.out _), below_drewN hbw2 _⟩
          case measure => simp [intOf]; omega
      by_cases hke : k = i
      · subst hke
        have hd : decide (k ≤ k) = true := decide_eq_true (by omega)
        have HD : Hid (decide (k + 1 ≤ k) = false) := Lib.hid (decide_eq_false (by omega))
        rw [HB.out] at HRC
        go_wp2
        go_region_held3 (fun w' => w'.cell? ⟨w.heap.size, k, none⟩ = some (.float .f64 (x k).1) ∧ w'.cell? ⟨w.heap.size + 1, k, none⟩ = some (.float .f64 (x k).2)) (go_keep) (fail)
        all_goals
          obtain ⟨W, hW, e1, e2, HP2, hbw2⟩ : ∃ W, Hid ((wr.setCell ⟨g, k, none⟩ (.complex .f64 (x k).1 (x k).2)).drew = W) ∧ W.cell? ⟨w.heap.size, k, none⟩ = some (.float .f64 (x k).1) ∧ W.cell? ⟨w.heap.size + 1, k, none⟩ = some (.float .f64 (x k).2) ∧ Hid (∀ d, OutAt (W.drewN d) g (partC x (k + 1))) ∧ Below g w3 W :=
            ⟨_, Lib.hid rfl, d1 _, d2 _, Lib.hid (fun d => ⟨(HP.out 0).cells, (HP.out 0).free, (HP.out 0).lt⟩), (hbw.setCell (p := ⟨g, k, none⟩) (Nat.le_refl _) _).drew⟩
          clear d1 d2 c1 c2 c0 f0
          go_wp2
          rw [hW.out]
          clear hW
          go_quiet ((go_at_call 13; exact Calls.quiet_of (HRC.out _)))
          go_wp2
          go_roundw
          case rel => exact ⟨k + 1, by go_num, by omega, by rw [HD.out], Lib.hid (HP2.out _), below_drewN hbw2 _⟩
          case measure => simp [intOf]; omega
      · have hd : decide (k ≤ i) = false := decide_eq_false (by omega)
        have HD : Hid (decide (k + 1 ≤ i) = false) := Lib.hid (decide_eq_false (by omega))
        go_wp2
        go_region_held3 (fun w' => w'.cell? ⟨w.heap.size, k, none⟩ = some (.float .f64 (x k).1) ∧ w'.cell? ⟨w.heap.size + 1, k, none⟩ = some (.float .f64 (x k).2)) (go_keep) (fail)
        all_goals
          obtain ⟨W, hW, e1, e2, HP2, hbw2⟩ : ∃ W, Hid ((wr.setCell ⟨g, k, none⟩ (.complex .f64 (x k).1 (x k).2)).drew = W) ∧ W.cell? ⟨w.heap.size, k, none⟩ = some (.float .f64 (x k).1) ∧ W.cell? ⟨w.heap.size + 1, k, none⟩ = some (.float .f64 (x k).2) ∧ Hid (∀ d, OutAt (W.drewN d) g (partC x (k + 1))) ∧ Below g w3 W :=
            ⟨_, Lib.hid rfl, d1 _, d2 _, Lib.hid (fun d => ⟨(HP.out 0).cells, (HP.out 0).free, (HP.out 0).lt⟩), (hbw.setCell (p := ⟨g, k, none⟩) (Nat.le_refl _) _).drew⟩
          clear d1 d2 c1 c2 c0 f0
          go_wp2
          rw [hW.out]
          clear hW
          go_quiet (fail)
          go_wp2
          go_roundw
          case rel => exact ⟨k + 1, by go_num, by omega, by rw [HD.out], Lib.hid (HP2.out _), below_drewN hbw2 _⟩
          case measure => simp [intOf]; omega
    · obtain rfl : k = 4 := by omega
      have hd : decide (4 ≤ i) = false := decide_eq_false (by omega)
      have HO4 := Lib.hid (HO1.out.congr (G := x) (fun j hj => if_pos hj))
      have g0 := HO4.out.cells 0 (by omega)
      have g1 := HO4.out.cells 1 (by omega)
      have g2 := HO4.out.cells 2 (by omega)
      have g3 := HO4.out.cells 3 (by omega)
      have hBB : Below w.heap.size w wr := B3.trans (hbw.mono (by omega))
      clear HO1 hbw
      go_wp2_with fail
      refine (HBK.out _).mono ?_
      rintro e w7 ⟨rfl, b7⟩
      have B7 := hBB.trans (b7.mono hBB.size)
      clear g0 g1 g2 g3 b7
      obtain ⟨w8, HE8, HO8, B8⟩ : ∃ w8, Hid (w7.alloc (.cells #[.complex .f64 0 0, .complex .f64 0 0, .complex .f64 0 0, .complex .f64 0 0] 47) = w8) ∧ Hid (OutAt w8 w7.heap.size (fun _ => (0, 0))) ∧ Below w.heap.size w w8 := by
        refine ⟨_, Lib.hid rfl, Lib.hid ⟨fun k hk => ?_, fun k hk => ?_, by simp⟩, B7.alloc B7.size _⟩
        all_goals (rcases k4 hk with rfl | rfl | rfl | rfl <;> simp [go_sem])
      go_wp2_with fail
      rw [HE8.out]
      clear HE8
      refine (awake07 _).mono ?_
      rintro e w9 ⟨rfl, b9⟩
      have B9 := B8.trans (b9.mono B8.size)
      have HO9 := HO8.out.below b9
      have c0 := HO9.cells 0 (by omega)
      have c1 := HO9.cells 1 (by omega)
      have c2 := HO9.cells 2 (by omega)
      have c3 := HO9.cells 3 (by omega)
      clear HO9 b9
      have hz : ∀ w, (binOp .eql 47 (.agg #[.complex .f64 0 0, .complex .f64 0 0, .complex .f64 0 0, .complex .f64 0 0]) (.agg #[.complex .f64 0 0, .complex .f64 0 0, .complex .f64 0 0, .complex .f64 0 0])).run Try.prog w = .ok (.bool true) w := fun _ => by kernel_rfl
      go_wp2
      go_ret
      exact ⟨rfl, B9⟩
theorem qrt_comm (t k : Nat) (hk : k < 4) (ht : t < 4) : ∃ p : Int, (k : Int) * (t : Int) = p ∧ 0 ≤ p ∧ p ≤ 9 ∧ p % 4 = (qrt 1 t k : Int) ∧ qrt 1 t k < 4 := by
  rcases k4 hk with rfl | rfl | rfl | rfl <;> rcases k4 ht with rfl | rfl | rfl | rfl <;> exact ⟨_, rfl, by decide, by decide, by decide, by decide⟩
set_option maxRecDepth 100000 in
set_option maxHeartbeats 8000000 in
theorem phaseBacks_ok (x : Nat → Nat × Nat) (w : World) (hx : ∀ t, t < 4 → (x t).1 < 18446744073709551616 ∧ (x t).2 < 18446744073709551616) (hl : ∀ t, t < 4 → (isFin (x t).1 && isFin (x t).2) = true) :
    Calls Try.prog 7 #[.agg #[.float .f64 (x 0).1, .float .f64 (x 1).1, .float .f64 (x 2).1, .float .f64 (x 3).1], .agg #[.float .f64 (x 0).2, .float .f64 (x 1).2, .float .f64 (x 2).2, .float .f64 (x 3).2]] w fun e w' => e = .returned (.bool true) ∧ Below w.heap.size w w' := by
  have HBK := Lib.hid (fun w => back_ok x w hx hl)
  have HL := Lib.hid hl
  have HX := Lib.hid hx
  obtain ⟨w3, HE, HF1, HF2, HO, hsz, B3⟩ := back_init x w
  clear hl hx
  go_enter Try.func7, Try.ntmps7
  go_wp2
  rw [HE.out]
  clear HE
  generalize hg : w.heap.size + 1 + 1 = g at HO hsz ⊢
  go_loopw [6, 7] (fun x6 x7 wi => ∃ k : Nat, x7 = .int .i64 k ∧ k ≤ 4 ∧ x6 = .bool true ∧ Hid (OutAt wi g (partC x k)) ∧ Below g w3 wi) (fun _ x7 _ => 4 - (intOf x7).toNat)
  case atStart => exact ⟨0, rfl, by omega, rfl, HO, Below.refl _ _⟩
  case round =>
    obtain ⟨k, rfl, hk, rfl, HO1, hbw⟩ := hrel
    clear HO
    by_cases hlt : k < 4
    · have hli : (k : Int) < 4 := by omega
      have c1 := (HF1.out.keep hbw (by omega)).cells k hlt
      have c2 := (HF2.out.keep hbw (by omega)).cells k hlt
      have c0 := HO1.out.cells k hlt
      have f0 := HO1.out.free k hlt
      obtain ⟨hx1, hx2⟩ := HX.out k hlt
      have HRC := Lib.hid (fun w => rcounts_any (x k).1 (x k).2 w hx1 hx2)
      have HP : Hid (∀ d, OutAt ((wr.setCell ⟨g, k, none⟩ (.complex .f64 (x k).1 (x k).2)).drewN d) g (partC x (k + 1))) := Lib.hid (fun d => (((HO1.out).put k hlt (x k).1 (x k).2).congr (fun j hj => by
        unfold partC
        by_cases e : j = k
        · subst e; simp
        · simp only [if_neg e]
          by_cases e' : j < k
          · rw [if_pos e', if_pos (by omega)]
          · rw [if_neg e', if_neg (by omega)])).drewN d)
      have hne : (⟨w.heap.size, k, none⟩ : Addr) ≠ ⟨g, k, none⟩ := by intro e; simp only [Addr.mk.injEq] at e; omega
      have hne2 : (⟨w.heap.size + 1, k, none⟩ : Addr) ≠ ⟨g, k, none⟩ := by intro e; simp only [Addr.mk.injEq] at e; omega
      have d1 : ∀ v, (wr.setCell ⟨g, k, none⟩ v).cell? ⟨w.heap.size, k, none⟩ = some (.float .f64 (x k).1) := fun v => by rw [World.cell?_setCell_other _ _ _ _ hne.symm]; exact c1
      have d2 : ∀ v, (wr.setCell ⟨g, k, none⟩ v).cell? ⟨w.heap.size + 1, k, none⟩ = some (.float .f64 (x k).2) := fun v => by rw [World.cell?_setCell_other _ _ _ _ hne2.symm]; exact c2
      clear hne hne2
      · rw [HL.out k hlt] at HRC
        go_wp2
        go_region_held3 (fun w' => w'.cell? ⟨w.heap.size, k, none⟩ = some (.float .f64 (x k).1) ∧ w'.cell? ⟨w.heap.size + 1, k, none⟩ = some (.float .f64 (x k).2)) (go_keep) (fail)
        all_goals
          obtain ⟨W, hW, e1, e2, HP2, hbw2⟩ : ∃ W, Hid ((wr.setCell ⟨g, k, none⟩ (.complex .f64 (x k).1 (x k).2)).drew = W) ∧ W.cell? ⟨w.heap.size, k, none⟩ = some (.float .f64 (x k).1) ∧ W.cell? ⟨w.heap.size + 1, k, none⟩ = some (.float .f64 (x k).2) ∧ Hid (∀ d, OutAt (W.drewN d) g (partC x (k + 1))) ∧ Below g w3 W :=
            ⟨_, Lib.hid rfl, d1 _, d2 _, Lib.hid (fun d => ⟨(HP.out 0).cells, (HP.out 0).free, (HP.out 0).lt⟩), (hbw.setCell (p := ⟨g, k, none⟩) (Nat.le_refl _) _).drew⟩
          clear d1 d2 c1 c2 c0 f0
          go_wp2
          rw [hW.out]
          clear hW
          go_quiet ((go_at_call 13; exact Calls.quiet_of (HRC.out _)))
          go_wp2
          go_roundw
          case rel => exact ⟨k + 1, by go_num, by omega, rfl, Lib.hid (HP2.out _), below_drewN hbw2 _⟩
          case measure => simp [intOf]; omega
    · obtain rfl : k = 4 := by omega
      have HO4 := Lib.hid (HO1.out.congr (G := x) (fun j hj => if_pos hj))
      have HG1 := Lib.hid (HF1.out.keep hbw (by omega))
      have HG2 := Lib.hid (HF2.out.keep hbw (by omega))
      have g0 := HO4.out.cells 0 (by omega)
      have g1 := HO4.out.cells 1 (by omega)
      have g2 := HO4.out.cells 2 (by omega)
      have g3 := HO4.out.cells 3 (by omega)
      have hBB : Below w.heap.size w wr := B3.trans (hbw.mono (by omega))
      clear HO1 hbw
      go_wp2_with fail
      refine (HBK.out _).mono ?_
      rintro e w7 ⟨G, rfl, hG, b7⟩
      have HG := Lib.hid hG
      have B7 := hBB.trans (b7.mono hBB.size)
      have HG17 := Lib.hid (HG1.out.below b7)
      have HG27 := Lib.hid (HG2.out.below b7)
      clear g0 g1 g2 g3 b7 hG
      obtain ⟨w8, HE8, HO8, B8, HG18, HG28⟩ : ∃ w8, Hid (w7.alloc (.cells #[.complex .f64 (G 0).1 (G 0).2, .complex .f64 (G 1).1 (G 1).2, .complex .f64 (G 2).1 (G 2).2, .complex .f64 (G 3).1 (G 3).2] 47) = w8) ∧ Hid (OutAt w8 w7.heap.size G) ∧ Below w.heap.size w w8 ∧ Hid (FltAt w8 w.heap.size (fun k => (x k).1)) ∧ Hid (FltAt w8 (w.heap.size + 1) (fun k => (x k).2)) := by
        refine ⟨_, Lib.hid rfl, Lib.hid ⟨fun k hk => ?_, fun k hk => ?_, by simp⟩, B7.alloc B7.size _, Lib.hid (HG17.out.below ((Below.refl _ _).alloc (Nat.le_refl _) _)), Lib.hid (HG27.out.below ((Below.refl _ _).alloc (Nat.le_refl _) _))⟩
        all_goals (rcases k4 hk with rfl | rfl | rfl | rfl <;> simp [go_sem])
      clear HG1 HG2 HG17 HG27 HO4
      go_wp2
      rw [HE8.out]
      clear HE8
      generalize w7.heap.size = gy at HO8 ⊢
      go_loopw [10] (fun x10 wi => ∃ t : Nat, x10 = .int .i64 t ∧ t ≤ 4 ∧ ∃ q, wi = w8.drewN q) (fun x10 _ => 4 - (intOf x10).toNat)
      case atStart => exact ⟨0, rfl, by omega, 0, rfl⟩
      case round =>
        obtain ⟨t, rfl, ht, q, rfl⟩ := hrel
        by_cases hlt : t < 4
        · have hli : (t : Int) < 4 := by omega
          obtain ⟨zz, hz, hq1, hq2⟩ := HG.out t hlt
          have HZ := Lib.hid hz
          have HQ1 := Lib.hid hq1
          have HQ2 := Lib.hid hq2
          clear hz hq1 hq2
          go_wp2
          obtain ⟨q0, hq0⟩ : ∃ q0 : Nat, q0 = q := ⟨_, rfl⟩
          go_loopw [11, 12, 13] (fun x11 x12 x13 wi => ∃ k : Nat, x13 = .int .i64 k ∧ k ≤ 4 ∧ (∃ y : Nat × Nat, x11 = .float .f64 y.1 ∧ x12 = .float .f64 y.2 ∧ Hid (Chain (wave x 1 t) k y)) ∧ ∃ q, wi = w8.drewN q) (fun _ _ x13 _ => 4 - (intOf x13).toNat)
          case atStart => exact ⟨0, rfl, by omega, ⟨(0, 0), rfl, rfl, Lib.hid rfl⟩, q, rfl⟩
          case round =>
            obtain ⟨k, rfl, hk, ⟨y, rfl, rfl, HC⟩, q, rfl⟩ := hrel
            by_cases hlk : k < 4
            · have hli2 : (k : Int) < 4 := by omega
              obtain ⟨p, hp, hp0, hp9, hpq, hq4⟩ := qrt_comm t k hlk hlt
              have c1 : (w8.drewN q).cell? ⟨w.heap.size, k, none⟩ = some (.float .f64 (x k).1) := HG18.out.cells k hlk
              have c2 : (w8.drewN q).cell? ⟨w.heap.size + 1, k, none⟩ = some (.float .f64 (x k).2) := HG28.out.cells k hlk
              have HT := Lib.hid (fun w => rturn_any (x k).1 (x k).2 (qrt 1 t k) w hq4)
              have HCN : Hid (∀ r s, FAns (fadd y.1 (turnF (qrt 1 t k) ((x k).1, (x k).2)).1) r → FAns (fadd y.2 (turnF (qrt 1 t k) ((x k).1, (x k).2)).2) s → Chain (wave x 1 t) (k + 1) (r, s)) := Lib.hid (fun r s h1 h2 => ⟨y, HC.out, h1, h2⟩)
              have ew : IntKind.i64.wrap ((k : Int) * (t : Int)) = p := by rw [hp]; exact IntWalk.i64_in _ (by omega)
              have et : p.tmod 4 = (qrt 1 t k : Int) := by rw [Int.tmod_eq_emod_of_nonneg hp0]; exact hpq
              clear hp hpq
              generalize (turnF (qrt 1 t k) ((x k).1, (x k).2)).1 = tx at HT HCN
              generalize (turnF (qrt 1 t k) ((x k).1, (x k).2)).2 = ty at HT HCN
              generalize qrt 1 t k = qq at HT et hq4
              generalize hwq : w8.drewN q = wq at c1 c2 ⊢
              have HW := Lib.hid hwq
              clear hwq
              go_wp2
              go_quiet ((go_at_call 8; exact Calls.quiet_of_same ((HT.out _).mono fun _ _ ⟨a, b⟩ => ⟨a, b.symm⟩)))
              clear ew et c1 c2
              obtain ⟨W, hW⟩ : ∃ W, W = World.drewN wq nq := ⟨_, rfl⟩
              have HWW := Lib.hid hW
              rw [← hW]
              clear hW
              obtain ⟨r, j1, hr, run1⟩ := arith_run .add 22 y.1 tx W (by simp)
              obtain ⟨s, j2, hs, run2⟩ := arith_run .add 22 y.2 ty (W.drewN j1) (by simp)
              have HN := Lib.hid (HCN.out r s hr hs)
              clear hr hs
              go_wp2
              go_roundw
              case rel => exact ⟨k + 1, by go_num, by omega, ⟨(r, s), rfl, rfl, HN⟩, by first | exact ⟨_, by rw [HWW.out, ← HW.out]; simp only [World.drewN_drewN]⟩ | exact ⟨_, by rw [HWW.out, ← HW.out]; simp only [World.drewN_drewN]; rfl⟩⟩
              case measure => simp [intOf]; omega
            · obtain rfl : k = 4 := by omega
              have ct : (w8.drewN q).cell? ⟨gy, t, none⟩ = some (.complex .f64 (G t).1 (G t).2) := HO8.out.cells t hlt
              have hcg := HZ.out.congr HC.out
              generalize hwq : w8.drewN q = wq at ct ⊢
              have HW := Lib.hid hwq
              clear hwq
              obtain ⟨r, j1, hr, run1⟩ := arith_run .mul 22 y.1 4598175219545276416 wq (by simp)
              obtain ⟨s, j2, hs, run2⟩ := arith_run .mul 22 y.2 4598175219545276416 (wq.drewN j1) (by simp)
              have HS := Lib.hid (fun w => lsame_true (G t).1 (G t).2 r s w HQ1.out.lt HQ2.out.lt hr.lt hs.lt (fmul_congr hcg.1 HQ1.out hr) (fmul_congr hcg.2 HQ2.out hs))
              clear hr hs hcg
              go_wp2_with fail
              refine (HS.out _).mono ?_
              rintro e w9 ⟨rfl, rfl⟩
              go_wp2
              go_roundw
              case rel => exact ⟨t + 1, by go_num, by omega, by first | exact ⟨_, by rw [← HW.out]; simp only [World.drewN_drewN]⟩ | exact ⟨_, by rw [← HW.out]; simp only [World.drewN_drewN]; rfl⟩⟩
              case measure => simp [intOf]; omega
        · obtain rfl : t = 4 := by omega
          have B9 := below_drewN B8 q
          generalize w8.drewN q = w9 at B9 ⊢
          go_wp2_with fail
          refine (awake07 _).mono ?_
          rintro e w10 ⟨rfl, b10⟩
          have B10 := B9.trans (b10.mono B9.size)
          go_wp2
          go_ret
          exact ⟨rfl, B10⟩
section
variable {H : Type} {enc : TypeId × Value → H}
theorem open_flts4 {w : World} {r : Reach} {b0 : Nat} {v : Value} {d : DataW H} {p : List MemPlace} (hok : Value.okWide Try.prog w r b0 57 v) (h : DataW.Trod enc Try.prog w 0 (fun _ => true) true 57 v d p) :
    ∃ l : Nat → Nat, v = .agg #[.float .f64 (l 0), .float .f64 (l 1), .float .f64 (l 2), .float .f64 (l 3)] ∧ ∀ t, t < 4 → l t < 18446744073709551616 := by
  obtain ⟨cs, rfl, hsz⟩ := okWide_arr Try.underlying57 hok
  obtain ⟨c0, c1, c2, c3, rfl⟩ := array4 cs (hsz.trans (by kernel_rfl))
  obtain ⟨fuel, hf⟩ := h
  have hf' : DataW.trod enc Try.prog w 0 (fun _ => true) true fuel 57 [c0, c1, c2, c3] = some (d, p) := by simpa [Value.cells] using hf
  obtain ⟨y0, y1, y2, y3, m, _, h0, h1, h2, h3⟩ := trod_array4 Try.underlying57 (by kernel_rfl) hf'
  obtain ⟨x0, rfl, w0⟩ := field_float Try.underlying22 h0
  obtain ⟨x1, rfl, w1⟩ := field_float Try.underlying22 h1
  obtain ⟨x2, rfl, w2⟩ := field_float Try.underlying22 h2
  obtain ⟨x3, rfl, w3⟩ := field_float Try.underlying22 h3
  exact ⟨fun t => if t = 0 then x0 else if t = 1 then x1 else if t = 2 then x2 else x3, rfl, fun t ht => by rcases k4 ht with rfl | rfl | rfl | rfl <;> assumption⟩
end
theorem phaseBacks_walk {H : Type} {enc : TypeId × Value → H} {r r' : Reach} {b0 b0' : Nat} (v : Value) (d : DataW H) (p : List MemPlace) (v' : Value) (d' : DataW H) (p' : List MemPlace) (w : World)
    (hok : Value.okWide Try.prog w r b0 57 v) (h : DataW.Trod enc Try.prog w 0 (fun _ => true) true 57 v d p)
    (hok' : Value.okWide Try.prog w r' b0' 57 v') (h' : DataW.Trod enc Try.prog w 0 (fun _ => true) true 57 v' d' p') :
    Calls Try.prog 7 #[v, v'] w fun e w' => e = .returned (.bool true) ∧ Below w.heap.size w w' := by
  obtain ⟨l, rfl, hl⟩ := open_flts4 hok h
  obtain ⟨m, rfl, hm⟩ := open_flts4 hok' h'
  have hx : ∀ t, t < 4 → ((fun t => (l t, m t)) t).1 < 18446744073709551616 ∧ ((fun t => (l t, m t)) t).2 < 18446744073709551616 := fun t ht => ⟨hl t ht, hm t ht⟩
  cases g0 : (isFin (l 0) && isFin (m 0))
  · exact phaseBacks_no (fun t => (l t, m t)) w 0 (by omega) hx (fun t ht => absurd ht (by omega)) g0
  cases g1 : (isFin (l 1) && isFin (m 1))
  · exact phaseBacks_no (fun t => (l t, m t)) w 1 (by omega) hx (fun t ht => by
      have : t = 0 := by omega
      subst this; assumption) g1
  cases g2 : (isFin (l 2) && isFin (m 2))
  · exact phaseBacks_no (fun t => (l t, m t)) w 2 (by omega) hx (fun t ht => by
      have : t = 0 ∨ t = 1 := by omega
      rcases this with rfl | rfl <;> assumption) g2
  cases g3 : (isFin (l 3) && isFin (m 3))
  · exact phaseBacks_no (fun t => (l t, m t)) w 3 (by omega) hx (fun t ht => by
      have : t = 0 ∨ t = 1 ∨ t = 2 := by omega
      rcases this with rfl | rfl | rfl <;> assumption) g3
  exact phaseBacks_ok (fun t => (l t, m t)) w hx (fun t ht => by rcases k4 ht with rfl | rfl | rfl | rfl <;> assumption)
end Go.Proofs.Ytlhcbbcgnkpknaa
