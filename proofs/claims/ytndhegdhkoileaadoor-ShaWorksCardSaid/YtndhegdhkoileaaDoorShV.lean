/- The reference's constants (layer 3): Below. -/
import Derived.Test.YtndhegdhkoileaaDoorShU
namespace Go.Proofs.YtndhegdhkoileaaDoor
open Go.RowKit Go.Deep
set_option linter.unusedVariables false
set_option linter.unusedSimpArgs false
def dg3 (n : Nat) : List Nat := [n % 65536, n / 65536 % 65536, n / 4294967296]
def sqL (n : Nat) : List Nat := timesL (dg3 n) (dg3 n)
def cubL (n : Nat) : List Nat := timesL (sqL n) (dg3 n)
def wantL (p : Nat) : List Nat := (List.replicate 9 0).set 6 p
def cmpL (c u : List Nat) : Nat → Bool
  | 0 => true
  | k + 1 => if lget c k = lget u k then cmpL c u k else decide (lget c k < lget u k)
def belowB (n p : Nat) : Bool := cmpL (cubL n) (wantL p) 9
theorem cmpL_eq (c u : List Nat) (k : Nat) (h : lget c k = lget u k) : cmpL c u (k + 1) = cmpL c u k := by
  show (if lget c k = lget u k then cmpL c u k else decide (lget c k < lget u k)) = _
  rw [if_pos h]
theorem cmpL_ne (c u : List Nat) (k : Nat) (h : lget c k ≠ lget u k) : cmpL c u (k + 1) = decide (lget c k < lget u k) := by
  show (if lget c k = lget u k then cmpL c u k else decide (lget c k < lget u k)) = _
  rw [if_neg h]
theorem dg3_dg (n : Nat) (hn : n < 281474976710656) : Dg (dg3 n) := fun j => by
  unfold lget dg3
  rcases (show j = 0 ∨ j = 1 ∨ j = 2 ∨ 3 ≤ j by omega) with rfl | rfl | rfl | h
  · show n % 65536 ≤ 65535; omega
  · show n / 65536 % 65536 ≤ 65535; omega
  · show n / 4294967296 ≤ 65535; omega
  · rw [List.getElem?_eq_none (by simpa using h)]; show (0 : Nat) ≤ 65535; omega
theorem times_dg (a b : List Nat) (ha : Dg a) (hb : Dg b) : Dg (timesL a b) ∧ (timesL a b).length = a.length + b.length := by
  obtain ⟨h1, h2, _⟩ := tmO_ok a b ha hb a.length (Nat.le_refl _)
  exact ⟨h1, h2⟩
theorem RowN.num {w : World} {g N : Nat} {l : List Nat} (h : RowN w g N l) (hl : l.length = N) : NumRow w g l := by subst hl; exact h
theorem RowN.below {w w' : World} {g N : Nat} {l : List Nat} (h : RowN w g N l) (hb : Below w.heap.size w w') : RowN w' g N l := row_below h hb (World.rowIs.lt h)
attribute [local irreducible] timesL cmpL
set_option maxRecDepth 100000 in
set_option maxHeartbeats 2000000 in
theorem below_any (n p : Nat) (hn : n < 281474976710656) (hp : p ≤ 1000) (w : World) : Calls Tryd.prog 31 #[.int .i64 (n : Int), .int .i64 (p : Int)] w fun e w' => e = .returned (.bool (belowB n p)) ∧ Below w.heap.size w w' := by
  have hmk := run_make_row' (P := Tryd.prog) 33 3 (.int .i64 0) 8 Tryd.underlying33 info_i64' rfl .i64 .i64 9 (by omega) (by omega)
  rw [show ((9 : Nat) : Int) = 9 from rfl] at hmk
  have hd := dg3_dg n hn
  obtain ⟨hq1, hq2⟩ := times_dg (dg3 n) (dg3 n) hd hd
  obtain ⟨hc1, hc2⟩ := times_dg (sqL n) (dg3 n) hq1 hd
  have hl3 : (dg3 n).length = 3 := rfl
  have hl6 : (sqL n).length = 6 := by rw [show (sqL n).length = _ from hq2]; rfl
  have HDD := Lib.hid (fun w => digits_any n hn w)
  have HT1 := Lib.hid (fun g w h => times_any (dg3 n) (dg3 n) g g 3 3 w hd hd (by rw [hl3]; omega) (by rw [hl3]; omega) (by rw [hl3]; omega) h h)
  have HT2 := Lib.hid (fun g1 g2 w h1 h2 => times_any (sqL n) (dg3 n) g1 g2 6 3 w hq1 hd (by rw [hl6]; omega) (by rw [hl3]; omega) (by rw [hl3]; omega) h1 h2)
  have hl9 : (cubL n).length = 9 := by rw [show (cubL n).length = _ from hc2, hl6]; rfl
  rw [show timesL (dg3 n) (dg3 n) = sqL n from rfl] at HT1
  rw [show timesL (sqL n) (dg3 n) = cubL n from rfl] at HT2
  rw [hl3] at HT1
  rw [hl3, hl6] at HT2
  have HB := Lib.hid (show cmpL (cubL n) (wantL p) 9 = belowB n p from rfl)
  clear hd hq1 hq2 hc1 hc2
  generalize belowB n p = bb at *
  generalize cubL n = C at *
  have HD3 : Hid ([n % 65536, n / 65536 % 65536, n / 4294967296] = dg3 n) := Lib.hid rfl
  generalize sqL n = Sq at *
  go_enter Tryd.func31, Tryd.ntmps31
  go_wp2_with fail
  refine (HDD.out w).mono ?_
  rintro e w1 ⟨rfl, hr1, B1⟩
  rw [HD3.out] at hr1
  generalize dg3 n = D at *
  have hs1 := hr1.lt
  go_wp2_with fail
  refine (HT1.out _ w1 hr1).mono ?_
  rintro e w2 ⟨rfl, hr2, b2⟩
  have B2 := B1.trans (b2.mono B1.size)
  have hr1' := hr1.below b2
  go_wp2_with fail
  refine (HT2.out _ _ w2 (hr2.num hl6) hr1').mono ?_
  rintro e w3 ⟨rfl, hr3, b3⟩
  have B3 := B2.trans (b3.mono B2.size)
  clear hr1 hr1' hr2 b2 b3 B1 B2
  generalize w2.heap.size = g3 at *
  go_upto_region 4 with fail
  have b4 := (Below.refl w3.heap.size w3).alloc (Nat.le_refl _) (.cells (madeCells #[.int .i64 0] 9) 3)
  have hr4 : RowN (w3.alloc (.cells (madeCells #[.int .i64 0] 9) 3)) w3.heap.size 9 (List.replicate 9 0) := (World.rowIs_made w3 _ _ _).congr (fun j hj => by
    have : lget (List.replicate 9 0) j = 0 := by unfold lget; rw [List.getElem?_replicate, if_pos hj]; rfl
    rw [this]; rfl)
  have B4 := B3.trans (b4.mono B3.size)
  have hr34 := hr3.below b4
  have hg34 : g3 < w3.heap.size := World.rowIs.lt hr3
  have hg4w : w.heap.size ≤ w3.heap.size := B3.size
  clear hmk b4 hr3 B3
  generalize w3.alloc (.cells (madeCells #[.int .i64 0] 9) 3) = w4 at *
  generalize w3.heap.size = g4 at *
  have d6 := World.rowIs.cell hr4 (i := 6) (by omega)
  have f6 := World.rowIs.frozen hr4 6
  have hr5 : RowN (w4.setCell ⟨g4, 6, none⟩ (.int .i64 (p : Int))) g4 9 (wantL p) := RowN.set hr4 6 p (by simp)
  have hr35 : RowN (w4.setCell ⟨g4, 6, none⟩ (.int .i64 (p : Int))) g3 9 C := by
    obtain ⟨c, h1, h2⟩ := hr34
    exact ⟨c, (Below.heap_setCell w4 _ _ g3 (by show g3 ≠ g4; omega)).trans h1, h2⟩
  have B5 : Below w.heap.size w (w4.setCell ⟨g4, 6, none⟩ (.int .i64 (p : Int))) := B4.setCell (p := ⟨g4, 6, none⟩) hg4w _
  clear hr4 hr34 B4
  generalize wantL p = U at *
  go_wp2_with fail
  generalize w4.setCell ⟨g4, 6, none⟩ (.int .i64 (p : Int)) = w5 at *
  clear d6 f6
  go_loopw [8] (fun x wi => ∃ (k : Nat) (z : Int), x = .int .i64 z ∧ z = (k : Int) - 1 ∧ k ≤ 9 ∧ Hid (cmpL C U k = bb) ∧ Hid (RowN wi g3 9 C) ∧ Hid (RowN wi g4 9 U) ∧ Hid (Below w.heap.size w wi)) (fun x _ => (intOf x + 1).toNat)
  case atStart => exact ⟨9, 8, rfl, rfl, by omega, HB, Lib.hid hr35, Lib.hid hr5, Lib.hid B5⟩
  case round =>
    obtain ⟨k, z, rfl, hz, hk, HC, H3, H4, HBB⟩ := hrel
    cases k with
    | zero =>
      obtain rfl : z = -1 := by omega
      clear hz
      go_wp2_with fail
      go_ret
      have hbt : bb = true := by rw [← HC.out]; with_unfolding_all rfl
      exact ⟨by rw [hbt]; rfl, HBB.out⟩
    | succ m =>
      obtain rfl : z = (m : Int) := by omega
      clear hz
      have c3 := World.rowIs.cell H3.out (i := m) (by omega)
      have c4 := World.rowIs.cell H4.out (i := m) (by omega)
      have hm9 : (m : Int) < 9 := by omega
      have HE := Lib.hid (cmpL_eq C U m)
      have HN := Lib.hid (cmpL_ne C U m)
      generalize lget C m = x1 at *
      generalize lget U m = x2 at *
      go_wp2_with fail
      refine wp_region_lin (S := (fun w' => w'.cell? ⟨g3, m, none⟩ = some (.int .i64 (x1 : Int)) ∧ w'.cell? ⟨g4, m, none⟩ = some (.int .i64 (x2 : Int)))) [(0, true), (1, true), (2, true), (3, true), (4, true), (5, true), (6, true), (7, true), (8, true)] (by kernel_rfl) (by kernel_rfl) rfl (by kernel_rfl) ?_ (fun hHeld => ?_)
      · (try dsimp only); exact ⟨c3, c4⟩
      (refine wpL_calm (o := { dst := some 29, op := Go.Op.move (Go.Operand.tmp 6), type := 33, pos := "ref.go:97", after := #[], guard := none }) (v := ?_) rfl (Or.inl ⟨by rfl, ?_⟩) ?_; rotate_left; (focus (intro w hSw; (try dsimp only at hSw); go_simp; (try (with_reducible rfl)); done)); try simp only [Act.put, List.setIfInBounds_toArray, List.set_cons_zero, List.set_cons_succ])
      (refine wpL_calm (o := { dst := some 30, op := Go.Op.move (Go.Operand.tmp 8), type := 3, pos := "ref.go:97", after := #[], guard := none }) (v := ?_) rfl (Or.inl ⟨by rfl, ?_⟩) ?_; rotate_left; (focus (intro w hSw; (try dsimp only at hSw); go_simp; (try (with_reducible rfl)); done)); try simp only [Act.put, List.setIfInBounds_toArray, List.set_cons_zero, List.set_cons_succ])
      (refine wpL_calm (o := { dst := some 31, op := Go.Op.indexAddr 33 (Go.Operand.tmp 29) (Go.Operand.tmp 30), type := 0, pos := "ref.go:97", after := #[{ on := 0, ground := Go.Ground.data }, { on := 1, ground := Go.Ground.data }], guard := none }) (v := ?_) rfl (Or.inl ⟨by rfl, ?_⟩) ?_; rotate_left; (focus (intro w hSw; (try dsimp only at hSw); go_simp; (try (with_reducible rfl)); done)); try simp only [Act.put, List.setIfInBounds_toArray, List.set_cons_zero, List.set_cons_succ])
      (refine wpL_calm (o := { dst := some 32, op := Go.Op.load 3 (Go.Operand.tmp 31), type := 3, pos := "ref.go:97", after := #[{ on := 2, ground := Go.Ground.data }], guard := none }) (v := ?_) rfl (Or.inl ⟨by rfl, ?_⟩) ?_; rotate_left; (focus (intro w hSw; (try dsimp only at hSw); go_simp; (try (with_reducible rfl)); done)); try simp only [Act.put, List.setIfInBounds_toArray, List.set_cons_zero, List.set_cons_succ])
      (refine wpL_calm (o := { dst := some 33, op := Go.Op.move (Go.Operand.tmp 7), type := 33, pos := "ref.go:97", after := #[], guard := none }) (v := ?_) rfl (Or.inl ⟨by rfl, ?_⟩) ?_; rotate_left; (focus (intro w hSw; (try dsimp only at hSw); go_simp; (try (with_reducible rfl)); done)); try simp only [Act.put, List.setIfInBounds_toArray, List.set_cons_zero, List.set_cons_succ])
      (refine wpL_calm (o := { dst := some 34, op := Go.Op.move (Go.Operand.tmp 8), type := 3, pos := "ref.go:97", after := #[], guard := none }) (v := ?_) rfl (Or.inl ⟨by rfl, ?_⟩) ?_; rotate_left; (focus (intro w hSw; (try dsimp only at hSw); go_simp; (try (with_reducible rfl)); done)); try simp only [Act.put, List.setIfInBounds_toArray, List.set_cons_zero, List.set_cons_succ])
      (refine wpL_calm (o := { dst := some 35, op := Go.Op.indexAddr 33 (Go.Operand.tmp 33) (Go.Operand.tmp 34), type := 0, pos := "ref.go:97", after := #[{ on := 4, ground := Go.Ground.data }, { on := 5, ground := Go.Ground.data }], guard := none }) (v := ?_) rfl (Or.inl ⟨by rfl, ?_⟩) ?_; rotate_left; (focus (intro w hSw; (try dsimp only at hSw); go_simp; (try (with_reducible rfl)); done)); try simp only [Act.put, List.setIfInBounds_toArray, List.set_cons_zero, List.set_cons_succ])
      (refine wpL_calm (o := { dst := some 36, op := Go.Op.load 3 (Go.Operand.tmp 35), type := 3, pos := "ref.go:97", after := #[{ on := 6, ground := Go.Ground.data }], guard := none }) (v := ?_) rfl (Or.inl ⟨by rfl, ?_⟩) ?_; rotate_left; (focus (intro w hSw; (try dsimp only at hSw); go_simp; (try (with_reducible rfl)); done)); try simp only [Act.put, List.setIfInBounds_toArray, List.set_cons_zero, List.set_cons_succ])
      (refine wpL_calm (o := { dst := some 37, op := Go.Op.binOp Go.BinOp.neq 3 (Go.Operand.tmp 32) (Go.Operand.tmp 36) 3, type := 4, pos := "ref.go:97", after := #[{ on := 3, ground := Go.Ground.data }, { on := 7, ground := Go.Ground.data }], guard := none }) (v := ?_) rfl (Or.inl ⟨by rfl, ?_⟩) ?_; rotate_left; (focus (intro w hSw; (try dsimp only at hSw); go_simp; (try (with_reducible rfl)); done)); try simp only [Act.put, List.setIfInBounds_toArray, List.set_cons_zero, List.set_cons_succ])
      refine wpL_nil ?_
      refine NoPanic.normal ?_
      by_cases he : x1 = x2
      · subst he
        clear hHeld c3 c4
        go_wp2_with fail
        go_roundw
        case rel => exact ⟨m, (m : Int) - 1, rfl, rfl, by omega, Lib.hid (by rw [← HE.out rfl]; exact HC.out), Lib.hid H3.out.drew, Lib.hid H4.out.drew, Lib.hid HBB.out.drew⟩
        case measure => simp [intOf]; try omega
      · have hne : ((x1 : Int) == (x2 : Int)) = false := by simp; omega
        have hne2 : ((x1 : Int) != (x2 : Int)) = true := by simp; omega
        have hne3 : ¬ ((x1 : Int) = (x2 : Int)) := by omega
        clear hHeld
        go_wp2_with fail
        refine wp_region_lin (S := (fun w' => w'.cell? ⟨g3, m, none⟩ = some (.int .i64 (x1 : Int)) ∧ w'.cell? ⟨g4, m, none⟩ = some (.int .i64 (x2 : Int)))) [(0, true), (1, true), (2, true), (3, true), (4, true), (5, true), (6, true), (7, true), (8, true), (9, true)] (by kernel_rfl) (by kernel_rfl) rfl (by kernel_rfl) ?_ (fun hHeld => ?_)
        · (try dsimp only); exact ⟨c3, c4⟩
        (refine wpL_calm (o := { dst := some 38, op := Go.Op.move (Go.Operand.tmp 6), type := 33, pos := "ref.go:98", after := #[], guard := none }) (v := ?_) rfl (Or.inl ⟨by rfl, ?_⟩) ?_; rotate_left; (focus (intro w hSw; (try dsimp only at hSw); go_simp; (try (with_reducible rfl)); done)); try simp only [Act.put, List.setIfInBounds_toArray, List.set_cons_zero, List.set_cons_succ])
        (refine wpL_calm (o := { dst := some 39, op := Go.Op.move (Go.Operand.tmp 8), type := 3, pos := "ref.go:98", after := #[], guard := none }) (v := ?_) rfl (Or.inl ⟨by rfl, ?_⟩) ?_; rotate_left; (focus (intro w hSw; (try dsimp only at hSw); go_simp; (try (with_reducible rfl)); done)); try simp only [Act.put, List.setIfInBounds_toArray, List.set_cons_zero, List.set_cons_succ])
        (refine wpL_calm (o := { dst := some 40, op := Go.Op.indexAddr 33 (Go.Operand.tmp 38) (Go.Operand.tmp 39), type := 0, pos := "ref.go:98", after := #[{ on := 0, ground := Go.Ground.data }, { on := 1, ground := Go.Ground.data }], guard := none }) (v := ?_) rfl (Or.inl ⟨by rfl, ?_⟩) ?_; rotate_left; (focus (intro w hSw; (try dsimp only at hSw); go_simp; (try (with_reducible rfl)); done)); try simp only [Act.put, List.setIfInBounds_toArray, List.set_cons_zero, List.set_cons_succ])
        (refine wpL_calm (o := { dst := some 41, op := Go.Op.load 3 (Go.Operand.tmp 40), type := 3, pos := "ref.go:98", after := #[{ on := 2, ground := Go.Ground.data }], guard := none }) (v := ?_) rfl (Or.inl ⟨by rfl, ?_⟩) ?_; rotate_left; (focus (intro w hSw; (try dsimp only at hSw); go_simp; (try (with_reducible rfl)); done)); try simp only [Act.put, List.setIfInBounds_toArray, List.set_cons_zero, List.set_cons_succ])
        (refine wpL_calm (o := { dst := some 42, op := Go.Op.move (Go.Operand.tmp 7), type := 33, pos := "ref.go:98", after := #[], guard := none }) (v := ?_) rfl (Or.inl ⟨by rfl, ?_⟩) ?_; rotate_left; (focus (intro w hSw; (try dsimp only at hSw); go_simp; (try (with_reducible rfl)); done)); try simp only [Act.put, List.setIfInBounds_toArray, List.set_cons_zero, List.set_cons_succ])
        (refine wpL_calm (o := { dst := some 43, op := Go.Op.move (Go.Operand.tmp 8), type := 3, pos := "ref.go:98", after := #[], guard := none }) (v := ?_) rfl (Or.inl ⟨by rfl, ?_⟩) ?_; rotate_left; (focus (intro w hSw; (try dsimp only at hSw); go_simp; (try (with_reducible rfl)); done)); try simp only [Act.put, List.setIfInBounds_toArray, List.set_cons_zero, List.set_cons_succ])
        (refine wpL_calm (o := { dst := some 44, op := Go.Op.indexAddr 33 (Go.Operand.tmp 42) (Go.Operand.tmp 43), type := 0, pos := "ref.go:98", after := #[{ on := 4, ground := Go.Ground.data }, { on := 5, ground := Go.Ground.data }], guard := none }) (v := ?_) rfl (Or.inl ⟨by rfl, ?_⟩) ?_; rotate_left; (focus (intro w hSw; (try dsimp only at hSw); go_simp; (try (with_reducible rfl)); done)); try simp only [Act.put, List.setIfInBounds_toArray, List.set_cons_zero, List.set_cons_succ])
        (refine wpL_calm (o := { dst := some 45, op := Go.Op.load 3 (Go.Operand.tmp 44), type := 3, pos := "ref.go:98", after := #[{ on := 6, ground := Go.Ground.data }], guard := none }) (v := ?_) rfl (Or.inl ⟨by rfl, ?_⟩) ?_; rotate_left; (focus (intro w hSw; (try dsimp only at hSw); go_simp; (try (with_reducible rfl)); done)); try simp only [Act.put, List.setIfInBounds_toArray, List.set_cons_zero, List.set_cons_succ])
        (refine wpL_calm (o := { dst := some 46, op := Go.Op.binOp Go.BinOp.lss 3 (Go.Operand.tmp 41) (Go.Operand.tmp 45) 3, type := 4, pos := "ref.go:98", after := #[{ on := 3, ground := Go.Ground.data }, { on := 7, ground := Go.Ground.data }], guard := none }) (v := ?_) rfl (Or.inl ⟨by rfl, ?_⟩) ?_; rotate_left; (focus (intro w hSw; (try dsimp only at hSw); go_simp; (try (with_reducible rfl)); done)); try simp only [Act.put, List.setIfInBounds_toArray, List.set_cons_zero, List.set_cons_succ])
        (refine wpL_calm (o := { dst := some 4, op := Go.Op.assign (Go.Operand.tmp 46), type := 4, pos := "ref.go:98", after := #[{ on := 8, ground := Go.Ground.data }, { on := 0, ground := Go.Ground.phase }, { on := 1, ground := Go.Ground.phase }, { on := 2, ground := Go.Ground.phase }, { on := 3, ground := Go.Ground.phase }, { on := 4, ground := Go.Ground.phase }, { on := 5, ground := Go.Ground.phase }, { on := 6, ground := Go.Ground.phase }, { on := 7, ground := Go.Ground.phase }, { on := 8, ground := Go.Ground.phase }], guard := none }) (v := ?_) rfl (Or.inl ⟨by rfl, ?_⟩) ?_; rotate_left; (focus (intro w hSw; (try dsimp only at hSw); go_simp; (try (with_reducible rfl)); done)); try simp only [Act.put, List.setIfInBounds_toArray, List.set_cons_zero, List.set_cons_succ])
        refine wpL_nil ?_
        refine NoPanic.normal ?_
        go_wp2_with fail
        go_ret
        refine ⟨?_, HBB.out.drew.drew⟩
        rw [← HC.out, HN.out he]
        rfl
end Go.Proofs.YtndhegdhkoileaaDoor
