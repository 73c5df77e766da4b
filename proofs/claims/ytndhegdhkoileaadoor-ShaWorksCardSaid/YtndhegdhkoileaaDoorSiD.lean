/- The reference of layer 3: three. -/
import Derived.Test.YtndhegdhkoileaaDoorSiC
namespace Go.Proofs.YtndhegdhkoileaaDoor
open Go.RowKit Go.Deep
set_option linter.unusedVariables false
set_option linter.unusedSimpArgs false
def thF (x : UInt32) (t0 t1 t2 : Nat) (push : Bool) (i j : Nat) : Nat := if j < i then thB x t0 t1 t2 push j else 0
theorem thF_succ (x : UInt32) (t0 t1 t2 : Nat) (push : Bool) (i j : Nat) (hj : j < 32) : thF x t0 t1 t2 push (i + 1) j = if j = i then thB x t0 t1 t2 push i else thF x t0 t1 t2 push i j := by
  unfold thF
  by_cases e1 : j = i
  · subst e1; rw [if_pos (by omega), if_pos rfl]
  · rw [if_neg e1]
    by_cases h : j < i
    · rw [if_pos h, if_pos (by omega)]
    · rw [if_neg h, if_neg (by omega)]
theorem tmod32 (a t : Nat) (h : t ≤ a) : Int.tmod ((a : Int) - (t : Int)) 32 = (((a - t) % 32 : Nat) : Int) := by
  rw [Int.tmod_eq_emod_of_nonneg (by omega)]
  omega
theorem T3_new (w : World) (T : TypeId) (a b c : Value) : (w.alloc (.cells #[a, b, c] T)).heap[w.heap.size]? = some (.cells #[a, b, c] T (0, 0)) := heap_alloc_new _ _
set_option maxRecDepth 100000 in
set_option maxHeartbeats 2000000 in
theorem three_any (x y : UInt32) (t0 t1 t2 : Nat) (push : Bool) (h0 : t0 < 32) (h1 : t1 < 32) (h2 : t2 < 32) (hy : ∀ i, i < 32 → thB x t0 t1 t2 push i = wbt y (31 - i)) (w : World) :
    Calls Tryd.prog 27 #[.int .i64 (x.toNat : Int), .agg #[.int .i64 (t0 : Int), .int .i64 (t1 : Int), .int .i64 (t2 : Int)], .bool push] w fun e w' => e = .returned (.int .i64 (y.toNat : Int)) ∧ Below w.heap.size w w' := by
  have H1 := Lib.hid (fun w => bits_any x w)
  have hmk := run_make_row' (P := Tryd.prog) 33 3 (.int .i64 0) 8 Tryd.underlying33 info_i64' rfl .i64 .i64 32 (by omega) (by omega)
  rw [show ((32 : Nat) : Int) = 32 from rfl] at hmk
  have HZ : Hid (∀ j, thF x t0 t1 t2 push 0 j = 0) := Lib.hid (fun j => by unfold thF; rw [if_neg (by omega)])
  have HS := Lib.hid (thF_succ x t0 t1 t2 push)
  have HPK : Hid (∀ i, thB x t0 t1 t2 push i = (lget (bitsL x) ((i + 32 - t0) % 32) + lget (bitsL x) ((i + 32 - t1) % 32) + (if push = true ∧ i < t2 then 0 else lget (bitsL x) ((i + 32 - t2) % 32))) % 2) := Lib.hid (fun i => rfl)
  have HF : Hid (∀ j, j < 32 → thF x t0 t1 t2 push 32 j = wbt y (31 - j)) := Lib.hid (fun j hj => by unfold thF; rw [if_pos hj]; exact hy j hj)
  have HLE : Hid (∀ i, i < 32 → lget (bitsL x) i ≤ 1) := Lib.hid (fun i hi => by rw [bitsL_at x i hi]; exact wbt_lt _ _)
  clear hy
  obtain ⟨w0, HW0, hT0, B0⟩ : ∃ w0, Hid (w.alloc (.cells #[.int .i64 (t0 : Int), .int .i64 (t1 : Int), .int .i64 (t2 : Int)] 56) = w0) ∧ w0.heap[w.heap.size]? = some (.cells #[.int .i64 (t0 : Int), .int .i64 (t1 : Int), .int .i64 (t2 : Int)] 56 (0, 0)) ∧ Below w.heap.size w w0 := ⟨_, Lib.hid rfl, heap_alloc_new _ _, (Below.refl _ _).alloc (Nat.le_refl _) _⟩
  have s0 : w.heap.size < w0.heap.size := (Array.getElem?_eq_some_iff.1 hT0).1
  go_enter Tryd.func27, Tryd.ntmps27
  go_upto_region 1 with fail
  rw [HW0.out]
  clear HW0
  go_wp2_with fail
  refine (H1.out _).mono ?_
  rintro e1 w1 ⟨rfl, R1, b1⟩
  have s1 : w0.heap.size < w1.heap.size := World.rowIs.lt R1
  have hT1 := (b1.block _ s0).trans hT0
  have B1 := B0.trans (b1.mono B0.size)
  clear hT0 B0 b1 H1
  go_upto_region 3 with fail
  have hr2 : (w1.alloc (.cells (madeCells #[.int .i64 0] 32) 3)).rowIs w1.heap.size 3 32 (fun j => .int .i64 (thF x t0 t1 t2 push 0 j : Int)) := (World.rowIs_made w1 _ _ _).congr (fun j hj => by rw [HZ.out]; rfl)
  have b2 : Below w1.heap.size w1 (w1.alloc (.cells (madeCells #[.int .i64 0] 32) 3)) := (Below.refl _ _).alloc (Nat.le_refl _) _
  clear hmk
  generalize w1.alloc (.cells (madeCells #[.int .i64 0] 32) 3) = w2 at *
  have R2 := Lib.hid (RowN.below R1 b2)
  have hT2 := (b2.block _ (by omega)).trans hT1
  have B2 := Lib.hid (B1.trans (b2.mono B1.size))
  have T0 := Lib.hid (cell_of_row w2 w.heap.size 0 _ _ _ hT2)
  have T1 := Lib.hid (cell_of_row w2 w.heap.size 1 _ _ _ hT2)
  have T2 := Lib.hid (cell_of_row w2 w.heap.size 2 _ _ _ hT2)
  have hb1 : w.heap.size ≤ w1.heap.size := by omega
  clear R1 hT1 hT2 B1 b2
  generalize hg1 : w.heap.size = g1 at *
  have HG1 := Lib.hid hg1
  clear hg1
  generalize w0.heap.size = g2 at *
  generalize w1.heap.size = g3 at *
  go_wp2_with fail
  go_loopw [9] (fun i wi => ∃ k : Nat, i = .int .i64 k ∧ k ≤ 32 ∧ Hid (wi.rowIs g3 3 32 (fun j => .int .i64 (thF x t0 t1 t2 push k j : Int))) ∧ Hid (Below g3 w2 wi)) (fun i _ => 32 - (intOf i).toNat)
  case atStart => exact ⟨0, rfl, by omega, Lib.hid hr2, Lib.hid (Below.refl _ _)⟩
  clear hr2
  case round =>
    obtain ⟨k, rfl, hk, HR, HB⟩ := hrel
    by_cases hlt : k < 32
    · have hli : (k : Int) < 32 := by omega
      have c0 := (HB.out.cell (p := ⟨g1, 0, none⟩) (by show g1 < g3; omega)).trans T0.out
      have c1 := (HB.out.cell (p := ⟨g1, 1, none⟩) (by show g1 < g3; omega)).trans T1.out
      have c2 := (HB.out.cell (p := ⟨g1, 2, none⟩) (by show g1 < g3; omega)).trans T2.out
      have m0 := tmod32 (k + 32) t0 (by omega)
      have m1 := tmod32 (k + 32) t1 (by omega)
      have m2 := tmod32 (k + 32) t2 (by omega)
      rw [show ((k + 32 : Nat) : Int) = (k : Int) + 32 from by push_cast; rfl] at m0 m1 m2
      have hj0 : (k + 32 - t0) % 32 < 32 := by omega
      have hj1 : (k + 32 - t1) % 32 < 32 := by omega
      have hj2 : (k + 32 - t2) % 32 < 32 := by omega
      have hpk := HPK.out k
      have HS1 := Lib.hid (fun j hj => HS.out k j hj)
      rw [hpk] at HS1
      clear hpk
      generalize (k + 32 - t0) % 32 = j0 at *
      generalize (k + 32 - t1) % 32 = j1 at *
      generalize (k + 32 - t2) % 32 = j2 at *
      have hj0' : (j0 : Int) < 32 := by omega
      have hj1' : (j1 : Int) < 32 := by omega
      have hj2' : (j2 : Int) < 32 := by omega
      have d0 := (HB.out.cell (p := ⟨g2, j0, none⟩) (by show g2 < g3; omega)).trans (World.rowIs.cell R2.out (i := j0) hj0)
      have d1 := (HB.out.cell (p := ⟨g2, j1, none⟩) (by show g2 < g3; omega)).trans (World.rowIs.cell R2.out (i := j1) hj1)
      have d2 := (HB.out.cell (p := ⟨g2, j2, none⟩) (by show g2 < g3; omega)).trans (World.rowIs.cell R2.out (i := j2) hj2)
      have l0 := HLE.out j0 hj0
      have l1 := HLE.out j1 hj1
      have l2 := HLE.out j2 hj2
      generalize lget (bitsL x) j0 = b0 at *
      generalize lget (bitsL x) j1 = b1 at *
      generalize lget (bitsL x) j2 = b2 at *
      have d3 := World.rowIs.cell HR.out (i := k) hlt
      have f3 := World.rowIs.frozen HR.out k
      have e0 := wrap64 ((k : Int) + 32) (by omega) (by omega)
      have e1 := wrap64 ((k : Int) + 32 - (t0 : Int)) (by omega) (by omega)
      have e2 := wrap64 ((k : Int) + 32 - (t1 : Int)) (by omega) (by omega)
      have e3 := wrap64 ((b0 : Int) + (b1 : Int)) (by omega) (by omega)
      have q0 : ((j0 : Int)).toNat = j0 := rfl
      have HM2 := Lib.hid m2
      clear m2
      go_wp2_with fail
      refine wp_region_lin (S := (fun w' => w'.cell? ⟨g1, 0, none⟩ = some (.int .i64 (t0 : Int)) ∧ w'.cell? ⟨g1, 1, none⟩ = some (.int .i64 (t1 : Int)) ∧ w'.cell? ⟨g2, j0, none⟩ = some (.int .i64 (b0 : Int)) ∧ w'.cell? ⟨g2, j1, none⟩ = some (.int .i64 (b1 : Int)))) [(0, true), (1, true), (2, true), (3, true), (4, true), (5, true), (6, true), (7, true), (8, true), (9, true), (10, true), (11, true), (12, true), (13, true), (14, true), (15, true), (16, true), (17, true), (18, true), (19, true)] (by kernel_rfl) (by kernel_rfl) rfl (by kernel_rfl) ?_ (fun hHeld => ?_)
      · (try dsimp only); exact ⟨c0, c1, d0, d1⟩
      (refine wpL_calm (o := { dst := some 18, op := Go.Op.move (Go.Operand.tmp 7), type := 33, pos := "ref.go:33", after := #[], guard := none }) (v := ?_) rfl (Or.inl ⟨by rfl, ?_⟩) ?_; rotate_left; (focus (intro w hSw; (try dsimp only at hSw); go_simp; (try (with_reducible rfl)); done)); try simp only [Act.put, List.setIfInBounds_toArray, List.set_cons_zero, List.set_cons_succ])
      (refine wpL_calm (o := { dst := some 19, op := Go.Op.move (Go.Operand.tmp 9), type := 3, pos := "ref.go:33", after := #[], guard := none }) (v := ?_) rfl (Or.inl ⟨by rfl, ?_⟩) ?_; rotate_left; (focus (intro w hSw; (try dsimp only at hSw); go_simp; (try (with_reducible rfl)); done)); try simp only [Act.put, List.setIfInBounds_toArray, List.set_cons_zero, List.set_cons_succ])
      (refine wpL_calm (o := { dst := some 20, op := Go.Op.binOp Go.BinOp.add 3 (Go.Operand.tmp 19) (Go.Operand.const (Go.Value.int Go.IntKind.i64 32)) 3, type := 3, pos := "ref.go:33", after := #[{ on := 1, ground := Go.Ground.data }], guard := none }) (v := ?_) rfl (Or.inl ⟨by rfl, ?_⟩) ?_; rotate_left; (focus (intro w hSw; (try dsimp only at hSw); go_simp; (try (with_reducible rfl)); done)); try simp only [Act.put, List.setIfInBounds_toArray, List.set_cons_zero, List.set_cons_succ])
      (refine wpL_calm (o := { dst := some 21, op := Go.Op.indexAddr 56 (Go.Operand.tmp 4) (Go.Operand.const (Go.Value.int Go.IntKind.i64 0)), type := 0, pos := "ref.go:33", after := #[], guard := none }) (v := ?_) rfl (Or.inl ⟨by rfl, ?_⟩) ?_; rotate_left; (focus (intro w hSw; (try dsimp only at hSw); go_simp; (try (with_reducible rfl)); done)); try simp only [Act.put, List.setIfInBounds_toArray, List.set_cons_zero, List.set_cons_succ])
      (refine wpL_calm (o := { dst := some 22, op := Go.Op.load 3 (Go.Operand.tmp 21), type := 3, pos := "ref.go:33", after := #[{ on := 3, ground := Go.Ground.data }], guard := none }) (v := ?_) rfl (Or.inl ⟨by rfl, ?_⟩) ?_; rotate_left; (focus (intro w hSw; (try dsimp only at hSw); go_simp; (try (with_reducible rfl)); done)); try simp only [Act.put, List.setIfInBounds_toArray, List.set_cons_zero, List.set_cons_succ])
      (refine wpL_calm (o := { dst := some 23, op := Go.Op.binOp Go.BinOp.sub 3 (Go.Operand.tmp 20) (Go.Operand.tmp 22) 3, type := 3, pos := "ref.go:33", after := #[{ on := 2, ground := Go.Ground.data }, { on := 4, ground := Go.Ground.data }], guard := none }) (v := ?_) rfl (Or.inl ⟨by rfl, ?_⟩) ?_; rotate_left; (focus (intro w hSw; (try dsimp only at hSw); go_simp; (try (with_reducible rfl)); done)); try simp only [Act.put, List.setIfInBounds_toArray, List.set_cons_zero, List.set_cons_succ])
      (refine wpL_calm (o := { dst := some 24, op := Go.Op.binOp Go.BinOp.rem 3 (Go.Operand.tmp 23) (Go.Operand.const (Go.Value.int Go.IntKind.i64 32)) 3, type := 3, pos := "ref.go:33", after := #[{ on := 5, ground := Go.Ground.data }], guard := none }) (v := ?_) rfl (Or.inl ⟨by rfl, ?_⟩) ?_; rotate_left; (focus (intro w hSw; (try dsimp only at hSw); go_simp; (try (with_reducible rfl)); done)); try simp only [Act.put, List.setIfInBounds_toArray, List.set_cons_zero, List.set_cons_succ])
      (refine wpL_calm (o := { dst := some 25, op := Go.Op.indexAddr 33 (Go.Operand.tmp 18) (Go.Operand.tmp 24), type := 0, pos := "ref.go:33", after := #[{ on := 0, ground := Go.Ground.data }, { on := 6, ground := Go.Ground.data }], guard := none }) (v := ?_) rfl (Or.inl ⟨by rfl, ?_⟩) ?_; rotate_left; (focus (intro w hSw; (try dsimp only at hSw); go_simp; (try (with_reducible rfl)); done)); try simp only [Act.put, List.setIfInBounds_toArray, List.set_cons_zero, List.set_cons_succ])
      (refine wpL_calm (o := { dst := some 26, op := Go.Op.load 3 (Go.Operand.tmp 25), type := 3, pos := "ref.go:33", after := #[{ on := 7, ground := Go.Ground.data }], guard := none }) (v := ?_) rfl (Or.inl ⟨by rfl, ?_⟩) ?_; rotate_left; (focus (intro w hSw; (try dsimp only at hSw); go_simp; (try (with_reducible rfl)); done)); try simp only [Act.put, List.setIfInBounds_toArray, List.set_cons_zero, List.set_cons_succ])
      (refine wpL_calm (o := { dst := some 27, op := Go.Op.move (Go.Operand.tmp 7), type := 33, pos := "ref.go:33", after := #[], guard := none }) (v := ?_) rfl (Or.inl ⟨by rfl, ?_⟩) ?_; rotate_left; (focus (intro w hSw; (try dsimp only at hSw); go_simp; (try (with_reducible rfl)); done)); try simp only [Act.put, List.setIfInBounds_toArray, List.set_cons_zero, List.set_cons_succ])
      (refine wpL_calm (o := { dst := some 28, op := Go.Op.move (Go.Operand.tmp 9), type := 3, pos := "ref.go:33", after := #[], guard := none }) (v := ?_) rfl (Or.inl ⟨by rfl, ?_⟩) ?_; rotate_left; (focus (intro w hSw; (try dsimp only at hSw); go_simp; (try (with_reducible rfl)); done)); try simp only [Act.put, List.setIfInBounds_toArray, List.set_cons_zero, List.set_cons_succ])
      (refine wpL_calm (o := { dst := some 29, op := Go.Op.binOp Go.BinOp.add 3 (Go.Operand.tmp 28) (Go.Operand.const (Go.Value.int Go.IntKind.i64 32)) 3, type := 3, pos := "ref.go:33", after := #[{ on := 10, ground := Go.Ground.data }], guard := none }) (v := ?_) rfl (Or.inl ⟨by rfl, ?_⟩) ?_; rotate_left; (focus (intro w hSw; (try dsimp only at hSw); go_simp; (try (with_reducible rfl)); done)); try simp only [Act.put, List.setIfInBounds_toArray, List.set_cons_zero, List.set_cons_succ])
      (refine wpL_calm (o := { dst := some 30, op := Go.Op.indexAddr 56 (Go.Operand.tmp 4) (Go.Operand.const (Go.Value.int Go.IntKind.i64 1)), type := 0, pos := "ref.go:33", after := #[], guard := none }) (v := ?_) rfl (Or.inl ⟨by rfl, ?_⟩) ?_; rotate_left; (focus (intro w hSw; (try dsimp only at hSw); go_simp; (try (with_reducible rfl)); done)); try simp only [Act.put, List.setIfInBounds_toArray, List.set_cons_zero, List.set_cons_succ])
      (refine wpL_calm (o := { dst := some 31, op := Go.Op.load 3 (Go.Operand.tmp 30), type := 3, pos := "ref.go:33", after := #[{ on := 12, ground := Go.Ground.data }], guard := none }) (v := ?_) rfl (Or.inl ⟨by rfl, ?_⟩) ?_; rotate_left; (focus (intro w hSw; (try dsimp only at hSw); go_simp; (try (with_reducible rfl)); done)); try simp only [Act.put, List.setIfInBounds_toArray, List.set_cons_zero, List.set_cons_succ])
      (refine wpL_calm (o := { dst := some 32, op := Go.Op.binOp Go.BinOp.sub 3 (Go.Operand.tmp 29) (Go.Operand.tmp 31) 3, type := 3, pos := "ref.go:33", after := #[{ on := 11, ground := Go.Ground.data }, { on := 13, ground := Go.Ground.data }], guard := none }) (v := ?_) rfl (Or.inl ⟨by rfl, ?_⟩) ?_; rotate_left; (focus (intro w hSw; (try dsimp only at hSw); go_simp; (try (with_reducible rfl)); done)); try simp only [Act.put, List.setIfInBounds_toArray, List.set_cons_zero, List.set_cons_succ])
      (refine wpL_calm (o := { dst := some 33, op := Go.Op.binOp Go.BinOp.rem 3 (Go.Operand.tmp 32) (Go.Operand.const (Go.Value.int Go.IntKind.i64 32)) 3, type := 3, pos := "ref.go:33", after := #[{ on := 14, ground := Go.Ground.data }], guard := none }) (v := ?_) rfl (Or.inl ⟨by rfl, ?_⟩) ?_; rotate_left; (focus (intro w hSw; (try dsimp only at hSw); go_simp; (try (with_reducible rfl)); done)); try simp only [Act.put, List.setIfInBounds_toArray, List.set_cons_zero, List.set_cons_succ])
      (refine wpL_calm (o := { dst := some 34, op := Go.Op.indexAddr 33 (Go.Operand.tmp 27) (Go.Operand.tmp 33), type := 0, pos := "ref.go:33", after := #[{ on := 9, ground := Go.Ground.data }, { on := 15, ground := Go.Ground.data }], guard := none }) (v := ?_) rfl (Or.inl ⟨by rfl, ?_⟩) ?_; rotate_left; (focus (intro w hSw; (try dsimp only at hSw); go_simp; (try (with_reducible rfl)); done)); try simp only [Act.put, List.setIfInBounds_toArray, List.set_cons_zero, List.set_cons_succ])
      (refine wpL_calm (o := { dst := some 35, op := Go.Op.load 3 (Go.Operand.tmp 34), type := 3, pos := "ref.go:33", after := #[{ on := 16, ground := Go.Ground.data }], guard := none }) (v := ?_) rfl (Or.inl ⟨by rfl, ?_⟩) ?_; rotate_left; (focus (intro w hSw; (try dsimp only at hSw); go_simp; (try (with_reducible rfl)); done)); try simp only [Act.put, List.setIfInBounds_toArray, List.set_cons_zero, List.set_cons_succ])
      (refine wpL_calm (o := { dst := some 36, op := Go.Op.binOp Go.BinOp.add 3 (Go.Operand.tmp 26) (Go.Operand.tmp 35) 3, type := 3, pos := "ref.go:33", after := #[{ on := 8, ground := Go.Ground.data }, { on := 17, ground := Go.Ground.data }], guard := none }) (v := ?_) rfl (Or.inl ⟨by rfl, ?_⟩) ?_; rotate_left; (focus (intro w hSw; (try dsimp only at hSw); go_simp; (try (with_reducible rfl)); done)); try simp only [Act.put, List.setIfInBounds_toArray, List.set_cons_zero, List.set_cons_succ])
      (refine wpL_calm (o := { dst := some 10, op := Go.Op.assign (Go.Operand.tmp 36), type := 3, pos := "ref.go:33", after := #[{ on := 18, ground := Go.Ground.data }, { on := 0, ground := Go.Ground.phase }, { on := 1, ground := Go.Ground.phase }, { on := 2, ground := Go.Ground.phase }, { on := 3, ground := Go.Ground.phase }, { on := 4, ground := Go.Ground.phase }, { on := 5, ground := Go.Ground.phase }, { on := 6, ground := Go.Ground.phase }, { on := 7, ground := Go.Ground.phase }, { on := 8, ground := Go.Ground.phase }, { on := 9, ground := Go.Ground.phase }, { on := 10, ground := Go.Ground.phase }, { on := 11, ground := Go.Ground.phase }, { on := 12, ground := Go.Ground.phase }, { on := 13, ground := Go.Ground.phase }, { on := 14, ground := Go.Ground.phase }, { on := 15, ground := Go.Ground.phase }, { on := 16, ground := Go.Ground.phase }, { on := 17, ground := Go.Ground.phase }, { on := 18, ground := Go.Ground.phase }], guard := none }) (v := ?_) rfl (Or.inl ⟨by rfl, ?_⟩) ?_; rotate_left; (focus (intro w hSw; (try dsimp only at hSw); go_simp; (try (with_reducible rfl)); done)); try simp only [Act.put, List.setIfInBounds_toArray, List.set_cons_zero, List.set_cons_succ])
      refine wpL_nil ?_
      refine NoPanic.normal ?_
      clear hHeld c0 c1 d0 d1 m0 m1 e0 e1 e2 e3 q0
      have HMM : Hid (((k : Int) + 32 - (t2 : Int)) % 32 = (j2 : Int)) := Lib.hid (by rw [← HM2.out, Int.tmod_eq_emod_of_nonneg (by omega)])
      have r1 := HMM.out
      have HQ1 : Hid (((b0 : Int) + (b1 : Int)) % 2 = (((b0 + b1 + 0) % 2 : Nat) : Int)) := Lib.hid (by omega)
      have HQ2 : Hid (((b0 : Int) + (b1 : Int) + (b2 : Int)) % 2 = (((b0 + b1 + b2) % 2 : Nat) : Int)) := Lib.hid (by omega)
      cases push with
      | true =>
        by_cases hp : k < t2
        · have hp' : (k : Int) < (t2 : Int) := by omega
          rw [if_pos ⟨rfl, hp⟩] at HS1
          go_wp2_with fail
          go_roundw
          case rel => exact ⟨k + 1, by go_num, by omega, Lib.hid (by rw [HQ1.out]; exact row_updN (w := wr.drew) HR.out k _ HS1.out), Lib.hid (HB.out.drew.setCell (p := ⟨g3, _, none⟩) (Nat.le_refl _) _)⟩
          case measure => simp [intOf]; omega
        · have hp' : ¬ (k : Int) < (t2 : Int) := by omega
          have hp2 : (t2 : Int) ≤ (k : Int) := by omega
          rw [if_neg (by rintro ⟨_, h⟩; exact hp h)] at HS1
          go_wp2_with fail
          go_roundw
          case rel => exact ⟨k + 1, by go_num, by omega, Lib.hid (by rw [HQ2.out]; exact row_updN (w := wr.drew) HR.out k _ HS1.out), Lib.hid (HB.out.drew.setCell (p := ⟨g3, _, none⟩) (Nat.le_refl _) _)⟩
          case measure => simp [intOf]; omega
      | false =>
        rw [if_neg (by rintro ⟨h, _⟩; cases h)] at HS1
        go_wp2_with fail
        go_roundw
        case rel => exact ⟨k + 1, by go_num, by omega, Lib.hid (by rw [HQ2.out]; exact row_updN (w := wr.drew) HR.out k _ HS1.out), Lib.hid (HB.out.drew.setCell (p := ⟨g3, _, none⟩) (Nat.le_refl _) _)⟩
        case measure => simp [intOf]; omega
    · obtain rfl : k = 32 := by omega
      rw [show ((32 : Nat) : Int) = 32 from rfl]
      go_wp2_with fail
      refine (num_fin (thF x t0 t1 t2 push 32) y g3 32 _ HF.out HR.out).mono ?_
      rintro e4 w4 ⟨rfl, rfl⟩
      go_wp2_with fail
      go_ret
      exact ⟨rfl, by rw [HG1.out]; exact B2.out.trans (HB.out.mono hb1)⟩
theorem three_bs0 (x : UInt32) (w : World) : Calls Tryd.prog 27 #[.int .i64 (x.toNat : Int), .agg #[.int .i64 2, .int .i64 13, .int .i64 22], .bool false] w fun e w' => e = .returned (.int .i64 ((bs0 x).toNat : Int)) ∧ Below w.heap.size w w' :=
  three_any x (bs0 x) 2 13 22 false (by omega) (by omega) (by omega) (fun i hi => thB_bs x 2 13 22 (by omega) (by omega) (by omega) i hi) w
theorem three_bs1 (x : UInt32) (w : World) : Calls Tryd.prog 27 #[.int .i64 (x.toNat : Int), .agg #[.int .i64 6, .int .i64 11, .int .i64 25], .bool false] w fun e w' => e = .returned (.int .i64 ((bs1 x).toNat : Int)) ∧ Below w.heap.size w w' :=
  three_any x (bs1 x) 6 11 25 false (by omega) (by omega) (by omega) (fun i hi => thB_bs x 6 11 25 (by omega) (by omega) (by omega) i hi) w
theorem three_sg0 (x : UInt32) (w : World) : Calls Tryd.prog 27 #[.int .i64 (x.toNat : Int), .agg #[.int .i64 7, .int .i64 18, .int .i64 3], .bool true] w fun e w' => e = .returned (.int .i64 ((sg0 x).toNat : Int)) ∧ Below w.heap.size w w' :=
  three_any x (sg0 x) 7 18 3 true (by omega) (by omega) (by omega) (fun i hi => thB_sg x 7 18 3 (by omega) (by omega) (by omega) i hi) w
theorem three_sg1 (x : UInt32) (w : World) : Calls Tryd.prog 27 #[.int .i64 (x.toNat : Int), .agg #[.int .i64 17, .int .i64 19, .int .i64 10], .bool true] w fun e w' => e = .returned (.int .i64 ((sg1 x).toNat : Int)) ∧ Below w.heap.size w w' :=
  three_any x (sg1 x) 17 19 10 true (by omega) (by omega) (by omega) (fun i hi => thB_sg x 17 19 10 (by omega) (by omega) (by omega) i hi) w
end Go.Proofs.YtndhegdhkoileaaDoor
