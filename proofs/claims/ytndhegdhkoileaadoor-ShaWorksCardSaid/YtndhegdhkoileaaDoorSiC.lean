/- The reference of layer 3: three, pick, most. -/
import Derived.Test.YtndhegdhkoileaaDoorSiB
namespace Go.Proofs.YtndhegdhkoileaaDoor
open Go.RowKit Go.Deep
set_option linter.unusedVariables false
set_option linter.unusedSimpArgs false
def fL (f : Nat → Nat) : List Nat := (List.range 32).map f
theorem fL_at (f : Nat → Nat) (i : Nat) (h : i < 32) : lget (fL f) i = f i := by
  unfold fL lget
  rw [List.getElem?_map, List.getElem?_range h]; rfl
theorem fL_out (f : Nat → Nat) (i : Nat) (h : ¬ i < 32) : lget (fL f) i = 0 := by
  unfold fL lget
  rw [List.getElem?_eq_none (by simp; omega)]; rfl
theorem num_fin (f : Nat → Nat) (y : UInt32) (g c : Nat) (w : World) (hf : ∀ i, i < 32 → f i = wbt y (31 - i)) (hr : w.rowIs g 3 32 (fun j => .int .i64 (f j : Int))) : Calls Tryd.prog 34 #[.slice (some ⟨g, 0, none⟩) 32 c] w fun e w' => e = .returned (.int .i64 (y.toNat : Int)) ∧ w = w' := by
  have h1 : ∀ i, lget (fL f) i ≤ 1 := fun i => by
    by_cases h : i < 32
    · rw [fL_at f i h, hf i h]; exact wbt_lt _ _
    · rw [fL_out f i h]; omega
  have h2 : RowN w g 32 (fL f) := World.rowIs.congr hr (fun j hj => by rw [fL_at f j hj])
  have h3 := num_all y (fL f) (fun i hi => by rw [fL_at f i hi, hf i hi])
  have := num_any (fL f) g c w h1 h2
  rwa [h3] at this
def pkF (e f g : UInt32) (i j : Nat) : Nat := if j < i then pkB e f g j else lget (bitsL g) j
theorem pkF_succ (e f g : UInt32) (i j : Nat) (hj : j < 32) : pkF e f g (i + 1) j = if j = i then pkB e f g i else pkF e f g i j := by
  unfold pkF
  by_cases e1 : j = i
  · subst e1; rw [if_pos (by omega), if_pos rfl]
  · rw [if_neg e1]
    by_cases h : j < i
    · rw [if_pos h, if_pos (by omega)]
    · rw [if_neg h, if_neg (by omega)]
theorem pkF_same (e f g : UInt32) (i j : Nat) (hj : j < 32) (h : pkB e f g i = lget (bitsL g) i) : pkF e f g (i + 1) j = pkF e f g i j := by
  rw [pkF_succ e f g i j hj]
  by_cases e1 : j = i
  · subst e1; rw [if_pos rfl, h]; unfold pkF; rw [if_neg (by omega)]
  · rw [if_neg e1]
set_option maxRecDepth 100000 in
set_option maxHeartbeats 1000000 in
theorem pick_any (x y z : UInt32) (w : World) : Calls Tryd.prog 28 #[.int .i64 (x.toNat : Int), .int .i64 (y.toNat : Int), .int .i64 (z.toNat : Int)] w fun e w' => e = .returned (.int .i64 ((chw x y z).toNat : Int)) ∧ Below w.heap.size w w' := by
  have H1 := Lib.hid (fun w => bits_any x w)
  have H2 := Lib.hid (fun w => bits_any y w)
  have H3 := Lib.hid (fun w => bits_any z w)
  have HZ : Hid (∀ j, pkF x y z 0 j = lget (bitsL z) j) := Lib.hid (fun j => by unfold pkF; rw [if_neg (by omega)])
  have HS := Lib.hid (pkF_succ x y z)
  have HSM := Lib.hid (pkF_same x y z)
  have HPK : Hid (∀ i, pkB x y z i = if lget (bitsL x) i = 1 then lget (bitsL y) i else lget (bitsL z) i) := Lib.hid (fun i => rfl)
  have HF : Hid (∀ j, j < 32 → pkF x y z 32 j = wbt (chw x y z) (31 - j)) := Lib.hid (fun j hj => by unfold pkF; rw [if_pos hj]; exact pkB_ch x y z j hj)
  go_enter Tryd.func28, Tryd.ntmps28
  go_wp2_with fail
  refine (H1.out _).mono ?_
  rintro e1 w1 ⟨rfl, R1, b1⟩
  have s1 : w.heap.size < w1.heap.size := World.rowIs.lt R1
  go_wp2_with fail
  refine (H2.out _).mono ?_
  rintro e2 w2 ⟨rfl, R2, b2⟩
  have s2 : w1.heap.size < w2.heap.size := World.rowIs.lt R2
  have R1' := RowN.below R1 b2
  have B2 := b1.trans (b2.mono b1.size)
  clear R1 b1 b2
  go_wp2_with fail
  refine (H3.out _).mono ?_
  rintro e3 w3 ⟨rfl, R3, b3⟩
  have s3 : w2.heap.size < w3.heap.size := World.rowIs.lt R3
  have R1 := Lib.hid (RowN.below R1' b3)
  have R2' := Lib.hid (RowN.below R2 b3)
  have B3 := Lib.hid (B2.trans (b3.mono B2.size))
  have hr3 : w3.rowIs w2.heap.size 3 32 (fun j => .int .i64 (pkF x y z 0 j : Int)) := World.rowIs.congr R3 (fun j hj => by rw [HZ.out])
  clear R1' R2 b3 B2 R3 H1 H2 H3
  have hb1 : w.heap.size ≤ w2.heap.size := by omega
  generalize hg1 : w.heap.size = g1 at *
  have HG1 := Lib.hid hg1
  clear hg1
  generalize w1.heap.size = g2 at *
  generalize w2.heap.size = g3 at *
  go_wp2_with fail
  go_loopw [10] (fun i wi => ∃ k : Nat, i = .int .i64 k ∧ k ≤ 32 ∧ Hid (wi.rowIs g3 3 32 (fun j => .int .i64 (pkF x y z k j : Int))) ∧ Hid (Below g3 w3 wi)) (fun i _ => 32 - (intOf i).toNat)
  case atStart => exact ⟨0, rfl, by omega, Lib.hid hr3, Lib.hid (Below.refl _ _)⟩
  clear hr3
  case round =>
    obtain ⟨k, rfl, hk, HR, HB⟩ := hrel
    by_cases hlt : k < 32
    · have hli : (k : Int) < 32 := by omega
      have d1 := (HB.out.cell (p := ⟨g1, k, none⟩) (by show g1 < g3; omega)).trans (World.rowIs.cell R1.out (i := k) hlt)
      have d2 := (HB.out.cell (p := ⟨g2, k, none⟩) (by show g2 < g3; omega)).trans (World.rowIs.cell R2'.out (i := k) hlt)
      have d3 := World.rowIs.cell HR.out (i := k) hlt
      have f3 := World.rowIs.frozen HR.out k
      have hpk := HPK.out k
      have HS1 := Lib.hid (fun j hj => HS.out k j hj)
      have HS2 := Lib.hid (fun j hj h => HSM.out k j hj h)
      generalize lget (bitsL x) k = bx at *
      generalize lget (bitsL y) k = by_ at *
      by_cases h1 : bx = 1
      · subst h1
        rw [if_pos rfl] at hpk
        rw [hpk] at HS1
        clear hpk HS2
        go_wp2_with fail
        go_roundw
        case rel => exact ⟨k + 1, by go_num, by omega, Lib.hid (row_updN HR.out k by_ HS1.out), Lib.hid (HB.out.setCell (p := ⟨g3, _, none⟩) (Nat.le_refl _) _)⟩
        case measure => simp [intOf]; omega
      · rw [if_neg h1] at hpk
        have HPK1 := Lib.hid hpk
        clear hpk
        have h1' : ¬ ((bx : Int) = 1) := by omega
        go_wp2_with fail
        go_roundw
        case rel => exact ⟨k + 1, by go_num, by omega, Lib.hid (World.rowIs.congr HR.out (fun j hj => by rw [HS2.out j hj HPK1.out])), HB⟩
        case measure => simp [intOf]; omega
    · obtain rfl : k = 32 := by omega
      rw [show ((32 : Nat) : Int) = 32 from rfl]
      go_wp2_with fail
      refine (num_fin (pkF x y z 32) (chw x y z) g3 32 _ HF.out HR.out).mono ?_
      rintro e4 w4 ⟨rfl, rfl⟩
      go_wp2_with fail
      go_ret
      exact ⟨rfl, by rw [HG1.out]; exact B3.out.trans (HB.out.mono hb1)⟩
def msF (e f g : UInt32) (i j : Nat) : Nat := if j < i then msB e f g j else lget (bitsL g) j
theorem msF_succ (e f g : UInt32) (i j : Nat) (hj : j < 32) : msF e f g (i + 1) j = if j = i then msB e f g i else msF e f g i j := by
  unfold msF
  by_cases e1 : j = i
  · subst e1; rw [if_pos (by omega), if_pos rfl]
  · rw [if_neg e1]
    by_cases h : j < i
    · rw [if_pos h, if_pos (by omega)]
    · rw [if_neg h, if_neg (by omega)]
set_option maxRecDepth 100000 in
set_option maxHeartbeats 1000000 in
theorem most_any (x y z : UInt32) (w : World) : Calls Tryd.prog 29 #[.int .i64 (x.toNat : Int), .int .i64 (y.toNat : Int), .int .i64 (z.toNat : Int)] w fun e w' => e = .returned (.int .i64 ((mjw x y z).toNat : Int)) ∧ Below w.heap.size w w' := by
  have H1 := Lib.hid (fun w => bits_any x w)
  have H2 := Lib.hid (fun w => bits_any y w)
  have H3 := Lib.hid (fun w => bits_any z w)
  have HZ : Hid (∀ j, msF x y z 0 j = lget (bitsL z) j) := Lib.hid (fun j => by unfold msF; rw [if_neg (by omega)])
  have HS := Lib.hid (msF_succ x y z)
  have HPK : Hid (∀ i, msB x y z i = (lget (bitsL x) i + lget (bitsL y) i + lget (bitsL z) i) / 2) := Lib.hid (fun i => rfl)
  have HCU : Hid (∀ i, msF x y z i i = lget (bitsL z) i) := Lib.hid (fun i => by unfold msF; rw [if_neg (by omega)])
  have HF : Hid (∀ j, j < 32 → msF x y z 32 j = wbt (mjw x y z) (31 - j)) := Lib.hid (fun j hj => by unfold msF; rw [if_pos hj]; exact msB_mj x y z j hj)
  have HLE : Hid (∀ (u : UInt32) i, i < 32 → lget (bitsL u) i ≤ 1) := Lib.hid (fun u i hi => by rw [bitsL_at u i hi]; exact wbt_lt _ _)
  go_enter Tryd.func29, Tryd.ntmps29
  go_wp2_with fail
  refine (H1.out _).mono ?_
  rintro e1 w1 ⟨rfl, R1, b1⟩
  have s1 : w.heap.size < w1.heap.size := World.rowIs.lt R1
  go_wp2_with fail
  refine (H2.out _).mono ?_
  rintro e2 w2 ⟨rfl, R2, b2⟩
  have s2 : w1.heap.size < w2.heap.size := World.rowIs.lt R2
  have R1' := RowN.below R1 b2
  have B2 := b1.trans (b2.mono b1.size)
  clear R1 b1 b2
  go_wp2_with fail
  refine (H3.out _).mono ?_
  rintro e3 w3 ⟨rfl, R3, b3⟩
  have s3 : w2.heap.size < w3.heap.size := World.rowIs.lt R3
  have R1 := Lib.hid (RowN.below R1' b3)
  have R2' := Lib.hid (RowN.below R2 b3)
  have B3 := Lib.hid (B2.trans (b3.mono B2.size))
  have hr3 : w3.rowIs w2.heap.size 3 32 (fun j => .int .i64 (msF x y z 0 j : Int)) := World.rowIs.congr R3 (fun j hj => by rw [HZ.out])
  clear R1' R2 b3 B2 R3 H1 H2 H3
  have hb1 : w.heap.size ≤ w2.heap.size := by omega
  generalize hg1 : w.heap.size = g1 at *
  have HG1 := Lib.hid hg1
  clear hg1
  generalize w1.heap.size = g2 at *
  generalize w2.heap.size = g3 at *
  go_wp2_with fail
  go_loopw [10] (fun i wi => ∃ k : Nat, i = .int .i64 k ∧ k ≤ 32 ∧ Hid (wi.rowIs g3 3 32 (fun j => .int .i64 (msF x y z k j : Int))) ∧ Hid (Below g3 w3 wi)) (fun i _ => 32 - (intOf i).toNat)
  case atStart => exact ⟨0, rfl, by omega, Lib.hid hr3, Lib.hid (Below.refl _ _)⟩
  clear hr3
  case round =>
    obtain ⟨k, rfl, hk, HR, HB⟩ := hrel
    by_cases hlt : k < 32
    · have hli : (k : Int) < 32 := by omega
      have d1 := (HB.out.cell (p := ⟨g1, k, none⟩) (by show g1 < g3; omega)).trans (World.rowIs.cell R1.out (i := k) hlt)
      have d2 := (HB.out.cell (p := ⟨g2, k, none⟩) (by show g2 < g3; omega)).trans (World.rowIs.cell R2'.out (i := k) hlt)
      have d3 := World.rowIs.cell HR.out (i := k) hlt
      have f3 := World.rowIs.frozen HR.out k
      rw [HCU.out k] at d3
      have hpk := HPK.out k
      have HS1 := Lib.hid (fun j hj => HS.out k j hj)
      have l1 := HLE.out x k hlt
      have l2 := HLE.out y k hlt
      have l3 := HLE.out z k hlt
      generalize lget (bitsL x) k = bx at *
      generalize lget (bitsL y) k = by_ at *
      generalize lget (bitsL z) k = bz at *
      rw [hpk] at HS1
      clear hpk
      have e1 := wrap64 ((bx : Int) + (by_ : Int)) (by omega) (by omega)
      have e2 := wrap64 ((bx : Int) + (by_ : Int) + (bz : Int)) (by omega) (by omega)
      have HQ : Hid (((bx : Int) + (by_ : Int) + (bz : Int)) / 2 = (((bx + by_ + bz) / 2 : Nat) : Int)) := Lib.hid (by omega)
      go_wp2_with fail
      refine wp_region_lin (S := (fun w' => w'.cell? ⟨g1, k, none⟩ = some (.int .i64 (bx : Int)) ∧ w'.cell? ⟨g2, k, none⟩ = some (.int .i64 (by_ : Int)) ∧ w'.cell? ⟨g3, k, none⟩ = some (.int .i64 (bz : Int)))) [(0, true), (1, true), (2, true), (3, true), (4, true), (5, true), (6, true), (7, true), (8, true), (9, true), (10, true), (11, true), (12, true), (13, true), (14, true)] (by kernel_rfl) (by kernel_rfl) rfl (by kernel_rfl) ?_ (fun hHeld => ?_)
      · (try dsimp only); exact ⟨d1, d2, d3⟩
      (refine wpL_calm (o := { dst := some 22, op := Go.Op.move (Go.Operand.tmp 7), type := 33, pos := "ref.go:61", after := #[], guard := none }) (v := ?_) rfl (Or.inl ⟨by rfl, ?_⟩) ?_; rotate_left; (focus (intro w hSw; (try dsimp only at hSw); go_simp; (try (with_reducible rfl)); done)); try simp only [Act.put, List.setIfInBounds_toArray, List.set_cons_zero, List.set_cons_succ])
      (refine wpL_calm (o := { dst := some 23, op := Go.Op.move (Go.Operand.tmp 10), type := 3, pos := "ref.go:61", after := #[], guard := none }) (v := ?_) rfl (Or.inl ⟨by rfl, ?_⟩) ?_; rotate_left; (focus (intro w hSw; (try dsimp only at hSw); go_simp; (try (with_reducible rfl)); done)); try simp only [Act.put, List.setIfInBounds_toArray, List.set_cons_zero, List.set_cons_succ])
      (refine wpL_calm (o := { dst := some 24, op := Go.Op.indexAddr 33 (Go.Operand.tmp 22) (Go.Operand.tmp 23), type := 0, pos := "ref.go:61", after := #[{ on := 0, ground := Go.Ground.data }, { on := 1, ground := Go.Ground.data }], guard := none }) (v := ?_) rfl (Or.inl ⟨by rfl, ?_⟩) ?_; rotate_left; (focus (intro w hSw; (try dsimp only at hSw); go_simp; (try (with_reducible rfl)); done)); try simp only [Act.put, List.setIfInBounds_toArray, List.set_cons_zero, List.set_cons_succ])
      (refine wpL_calm (o := { dst := some 25, op := Go.Op.load 3 (Go.Operand.tmp 24), type := 3, pos := "ref.go:61", after := #[{ on := 2, ground := Go.Ground.data }], guard := none }) (v := ?_) rfl (Or.inl ⟨by rfl, ?_⟩) ?_; rotate_left; (focus (intro w hSw; (try dsimp only at hSw); go_simp; (try (with_reducible rfl)); done)); try simp only [Act.put, List.setIfInBounds_toArray, List.set_cons_zero, List.set_cons_succ])
      (refine wpL_calm (o := { dst := some 26, op := Go.Op.move (Go.Operand.tmp 8), type := 33, pos := "ref.go:61", after := #[], guard := none }) (v := ?_) rfl (Or.inl ⟨by rfl, ?_⟩) ?_; rotate_left; (focus (intro w hSw; (try dsimp only at hSw); go_simp; (try (with_reducible rfl)); done)); try simp only [Act.put, List.setIfInBounds_toArray, List.set_cons_zero, List.set_cons_succ])
      (refine wpL_calm (o := { dst := some 27, op := Go.Op.move (Go.Operand.tmp 10), type := 3, pos := "ref.go:61", after := #[], guard := none }) (v := ?_) rfl (Or.inl ⟨by rfl, ?_⟩) ?_; rotate_left; (focus (intro w hSw; (try dsimp only at hSw); go_simp; (try (with_reducible rfl)); done)); try simp only [Act.put, List.setIfInBounds_toArray, List.set_cons_zero, List.set_cons_succ])
      (refine wpL_calm (o := { dst := some 28, op := Go.Op.indexAddr 33 (Go.Operand.tmp 26) (Go.Operand.tmp 27), type := 0, pos := "ref.go:61", after := #[{ on := 4, ground := Go.Ground.data }, { on := 5, ground := Go.Ground.data }], guard := none }) (v := ?_) rfl (Or.inl ⟨by rfl, ?_⟩) ?_; rotate_left; (focus (intro w hSw; (try dsimp only at hSw); go_simp; (try (with_reducible rfl)); done)); try simp only [Act.put, List.setIfInBounds_toArray, List.set_cons_zero, List.set_cons_succ])
      (refine wpL_calm (o := { dst := some 29, op := Go.Op.load 3 (Go.Operand.tmp 28), type := 3, pos := "ref.go:61", after := #[{ on := 6, ground := Go.Ground.data }], guard := none }) (v := ?_) rfl (Or.inl ⟨by rfl, ?_⟩) ?_; rotate_left; (focus (intro w hSw; (try dsimp only at hSw); go_simp; (try (with_reducible rfl)); done)); try simp only [Act.put, List.setIfInBounds_toArray, List.set_cons_zero, List.set_cons_succ])
      (refine wpL_calm (o := { dst := some 30, op := Go.Op.binOp Go.BinOp.add 3 (Go.Operand.tmp 25) (Go.Operand.tmp 29) 3, type := 3, pos := "ref.go:61", after := #[{ on := 3, ground := Go.Ground.data }, { on := 7, ground := Go.Ground.data }], guard := none }) (v := ?_) rfl (Or.inl ⟨by rfl, ?_⟩) ?_; rotate_left; (focus (intro w hSw; (try dsimp only at hSw); go_simp; (try (with_reducible rfl)); done)); try simp only [Act.put, List.setIfInBounds_toArray, List.set_cons_zero, List.set_cons_succ])
      (refine wpL_calm (o := { dst := some 31, op := Go.Op.move (Go.Operand.tmp 9), type := 33, pos := "ref.go:61", after := #[], guard := none }) (v := ?_) rfl (Or.inl ⟨by rfl, ?_⟩) ?_; rotate_left; (focus (intro w hSw; (try dsimp only at hSw); go_simp; (try (with_reducible rfl)); done)); try simp only [Act.put, List.setIfInBounds_toArray, List.set_cons_zero, List.set_cons_succ])
      (refine wpL_calm (o := { dst := some 32, op := Go.Op.move (Go.Operand.tmp 10), type := 3, pos := "ref.go:61", after := #[], guard := none }) (v := ?_) rfl (Or.inl ⟨by rfl, ?_⟩) ?_; rotate_left; (focus (intro w hSw; (try dsimp only at hSw); go_simp; (try (with_reducible rfl)); done)); try simp only [Act.put, List.setIfInBounds_toArray, List.set_cons_zero, List.set_cons_succ])
      (refine wpL_calm (o := { dst := some 33, op := Go.Op.indexAddr 33 (Go.Operand.tmp 31) (Go.Operand.tmp 32), type := 0, pos := "ref.go:61", after := #[{ on := 9, ground := Go.Ground.data }, { on := 10, ground := Go.Ground.data }], guard := none }) (v := ?_) rfl (Or.inl ⟨by rfl, ?_⟩) ?_; rotate_left; (focus (intro w hSw; (try dsimp only at hSw); go_simp; (try (with_reducible rfl)); done)); try simp only [Act.put, List.setIfInBounds_toArray, List.set_cons_zero, List.set_cons_succ])
      (refine wpL_calm (o := { dst := some 34, op := Go.Op.load 3 (Go.Operand.tmp 33), type := 3, pos := "ref.go:61", after := #[{ on := 11, ground := Go.Ground.data }], guard := none }) (v := ?_) rfl (Or.inl ⟨by rfl, ?_⟩) ?_; rotate_left; (focus (intro w hSw; (try dsimp only at hSw); go_simp; (try (with_reducible rfl)); done)); try simp only [Act.put, List.setIfInBounds_toArray, List.set_cons_zero, List.set_cons_succ])
      (refine wpL_calm (o := { dst := some 35, op := Go.Op.binOp Go.BinOp.add 3 (Go.Operand.tmp 30) (Go.Operand.tmp 34) 3, type := 3, pos := "ref.go:61", after := #[{ on := 8, ground := Go.Ground.data }, { on := 12, ground := Go.Ground.data }], guard := none }) (v := ?_) rfl (Or.inl ⟨by rfl, ?_⟩) ?_; rotate_left; (focus (intro w hSw; (try dsimp only at hSw); go_simp; (try (with_reducible rfl)); done)); try simp only [Act.put, List.setIfInBounds_toArray, List.set_cons_zero, List.set_cons_succ])
      (refine wpL_calm (o := { dst := some 11, op := Go.Op.assign (Go.Operand.tmp 35), type := 3, pos := "ref.go:61", after := #[{ on := 13, ground := Go.Ground.data }, { on := 0, ground := Go.Ground.phase }, { on := 1, ground := Go.Ground.phase }, { on := 2, ground := Go.Ground.phase }, { on := 3, ground := Go.Ground.phase }, { on := 4, ground := Go.Ground.phase }, { on := 5, ground := Go.Ground.phase }, { on := 6, ground := Go.Ground.phase }, { on := 7, ground := Go.Ground.phase }, { on := 8, ground := Go.Ground.phase }, { on := 9, ground := Go.Ground.phase }, { on := 10, ground := Go.Ground.phase }, { on := 11, ground := Go.Ground.phase }, { on := 12, ground := Go.Ground.phase }, { on := 13, ground := Go.Ground.phase }], guard := none }) (v := ?_) rfl (Or.inl ⟨by rfl, ?_⟩) ?_; rotate_left; (focus (intro w hSw; (try dsimp only at hSw); go_simp; (try (with_reducible rfl)); done)); try simp only [Act.put, List.setIfInBounds_toArray, List.set_cons_zero, List.set_cons_succ])
      refine wpL_nil ?_
      refine NoPanic.normal ?_
      clear hHeld d1 d2 e1 e2
      go_wp2_with fail
      go_roundw
      case rel => exact ⟨k + 1, by go_num, by omega, Lib.hid (by rw [HQ.out]; exact row_updN (w := wr.drew) HR.out k _ HS1.out), Lib.hid (HB.out.drew.setCell (p := ⟨g3, _, none⟩) (Nat.le_refl _) _)⟩
      case measure => simp [intOf]; omega
    · obtain rfl : k = 32 := by omega
      rw [show ((32 : Nat) : Int) = 32 from rfl]
      go_wp2_with fail
      refine (num_fin (msF x y z 32) (mjw x y z) g3 32 _ HF.out HR.out).mono ?_
      rintro e4 w4 ⟨rfl, rfl⟩
      go_wp2_with fail
      go_ret
      exact ⟨rfl, by rw [HG1.out]; exact B3.out.trans (HB.out.mono hb1)⟩
end Go.Proofs.YtndhegdhkoileaaDoor
