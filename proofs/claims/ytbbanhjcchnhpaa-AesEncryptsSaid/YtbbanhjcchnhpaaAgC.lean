/- The reference of package aes (cellaret): added. -/
import Derived.Test.YtbbanhjcchnhpaaAgB
namespace Go.Proofs.Ytbbanhjcchnhpaa
open Go.RowKit Go.Deep
set_option linter.unusedVariables false
set_option linter.unusedSimpArgs false
/-- A key's first n words, each a row of four numbers of its own. -/
structure WAt (w : World) (rb n : Nat) (W : Nat → UInt32) (bs cs : Nat → Nat) : Prop where
  lt : rb < w.heap.size
  cell : ∀ i, i < n → w.cell? ⟨rb, i, none⟩ = some (.slice (some ⟨bs i, 0, none⟩) 4 (cs i))
  wlt : ∀ i, i < n → bs i < w.heap.size
  word : ∀ i, i < n → ∀ r, r < 4 → w.cell? ⟨bs i, r, none⟩ = some (.int .i64 ((byW (W i) r).toNat : Int))
theorem WAt.below {w w' : World} {rb n : Nat} {W : Nat → UInt32} {bs cs : Nat → Nat} (h : WAt w rb n W bs cs) (hb : Below w.heap.size w w') : WAt w' rb n W bs cs :=
  ⟨Nat.lt_of_lt_of_le h.lt hb.size, fun i hi => (hb.cell (p := ⟨rb, i, none⟩) h.lt).trans (h.cell i hi), fun i hi => Nat.lt_of_lt_of_le (h.wlt i hi) hb.size, fun i hi r hr => (hb.cell (p := ⟨bs i, r, none⟩) (h.wlt i hi)).trans (h.word i hi r hr)⟩
set_option maxRecDepth 100000 in
set_option maxHeartbeats 3000000 in
theorem added_any (f : Nat → Nat) (W : Nat → UInt32) (bs cs : Nat → Nat) (n sb sc rb rc : Nat) (w : World) (hn : n ≤ 14) (hf : ∀ j, j < 16 → f j < 256) (hS : Hid (IAt w sb 16 f)) (hX : Hid (WAt w rb 60 W bs cs)) :
    Calls Try.prog 61 #[.slice (some ⟨sb, 0, none⟩) 16 sc, .slice (some ⟨rb, 0, none⟩) 60 rc, .int .i64 (n : Int)] w fun e w' => e = .returned (.slice (some ⟨w.heap.size, 0, none⟩) 16 16) ∧ IAt w' w.heap.size 16 (fun j => f j ^^^ (wB W n j).toNat) ∧ Below w.heap.size w w' := by
  have hmk := makeI16
  obtain ⟨w2, HW2, HR2, B2⟩ := made16 (fun j => f j ^^^ (wB W n j).toNat) w
  go_enter Try.func61, Try.ntmps61
  go_wp2_with fail
  rw [HW2.out]
  have lts := hS.out.lt
  have HBW : Hid (∀ i, i < 60 → bs i < w.heap.size) := Lib.hid hX.out.wlt
  have ltx := hX.out.lt
  have HS := Lib.hid (hS.out.below B2.out)
  have HX := Lib.hid (hX.out.below B2.out)
  clear HW2 hS hX hmk
  obtain ⟨q, hq⟩ : ∃ q, Hid (w.heap.size = q) := ⟨_, Lib.hid rfl⟩
  rw [hq.out] at HR2 lts ltx HBW
  rw [show (w.heap.size) = q from hq.out]
  go_loopw [8] (fun x wi => ∃ c : Nat, x = .int .i64 (c : Int) ∧ c ≤ 4 ∧ Hid (wi.rowIs q 3 16 (fun j => .int .i64 (oF (fun j => f j ^^^ (wB W n j).toNat) (4 * c + 0) j : Int))) ∧ Hid (Below q w2 wi)) (fun x _ => 4 - (intOf x).toNat)
  case atStart => exact ⟨0, rfl, by omega, HR2, Lib.hid (Below.refl _ _)⟩
  clear HR2
  case round =>
    obtain ⟨c, rfl, hc, HR, HB⟩ := hrel
    by_cases hlc : c < 4
    · as_aux_lemma =>
      have hci : (c : Int) < 4 := by omega
      go_wp2_with fail
      go_loopw [9] (fun x wi => ∃ r : Nat, x = .int .i64 (r : Int) ∧ r ≤ 4 ∧ Hid (wi.rowIs q 3 16 (fun j => .int .i64 (oF (fun j => f j ^^^ (wB W n j).toNat) (4 * c + r) j : Int))) ∧ Hid (Below q w2 wi)) (fun x _ => 4 - (intOf x).toNat)
      case atStart => exact ⟨0, rfl, by omega, HR, HB⟩
      clear HR HB
      case round =>
        obtain ⟨r, rfl, hr, HR, HB⟩ := hrel
        by_cases hlr : r < 4
        · as_aux_lemma =>
          have hri : (r : Int) < 4 := by omega
          have x2 : ((r : Int) + 4 * (c : Int)).toNat = r + 4 * c := by omega
          have x4 : (r : Int) + 4 * (c : Int) < 16 := by omega
          have x6 : (0 : Int) ≤ (r : Int) + 4 * (c : Int) := by omega
          have y5 : IntKind.i64.wrap (4 * (c : Int)) = 4 * c := IntWalk.i64_in _ (by omega)
          have y6 : IntKind.i64.wrap ((r : Int) + 4 * c) = r + 4 * c := IntWalk.i64_in _ (by omega)
          have y7 : IntKind.i64.wrap (4 * (n : Int)) = 4 * n := IntWalk.i64_in _ (by omega)
          have y8 : IntKind.i64.wrap (4 * (n : Int) + c) = 4 * n + c := IntWalk.i64_in _ (by omega)
          have y9 : (4 * (n : Int) + c).toNat = 4 * n + c := by omega
          have y10 : (0 : Int) ≤ 4 * (n : Int) + c := by omega
          have y11 : 4 * (n : Int) + c < 60 := by omega
          have c0 := (HS.out.under lts HB.out).cell (r + 4 * c) (by omega)
          have hfb := hf (r + 4 * c) (by omega)
          have c1 := (HB.out.cell (p := ⟨rb, 4 * n + c, none⟩) ltx).trans (HX.out.cell (4 * n + c) (by omega))
          have c2 := (HB.out.cell (p := ⟨bs (4 * n + c), r, none⟩) (HBW.out _ (by omega))).trans (HX.out.word (4 * n + c) (by omega) r hlr)
          have HST : Hid (∀ j, oF (fun j => f j ^^^ (wB W n j).toNat) (4 * c + (r + 1)) j = if j = r + 4 * c then f (r + 4 * c) ^^^ (byW (W (4 * n + c)) r).toNat else oF (fun j => f j ^^^ (wB W n j).toNat) (4 * c + r) j) := Lib.hid (fun j => by
            rw [oF_step _ c r hlc hlr j]
            have : wB W n (r + 4 * c) = byW (W (4 * n + c)) r := by
              unfold wB
              rw [show (r + 4 * c) % 4 = r by omega, show (r + 4 * c) / 4 = c by omega]
            simp only [this])
          have hwb := (byW (W (4 * n + c)) r).toNat_lt
          generalize f (r + 4 * c) = fv at c0 hfb HST
          generalize (byW (W (4 * n + c)) r).toNat = wv' at c2 hwb HST
          generalize bs (4 * n + c) = bi at c1 c2
          generalize cs (4 * n + c) = ci at c1
          have CA := Lib.hid (fun w => r02add_any fv wv' w (by omega) (by omega))
          generalize fv ^^^ wv' = z at CA HST
          have d0 := World.rowIs.cell HR.out (i := r + 4 * c) (by omega)
          have f0 := World.rowIs.frozen HR.out (r + 4 * c)
          go_upto_region 8 with fail
          refine wp_region_lin (S := (fun w' => w'.cell? ⟨sb, r + 4 * c, none⟩ = some (.int .i64 (fv : Int)) ∧ w'.cell? ⟨rb, 4 * n + c, none⟩ = some (.slice (some ⟨bi, 0, none⟩) 4 ci) ∧ w'.cell? ⟨bi, r, none⟩ = some (.int .i64 (wv' : Int)))) [(0, true), (1, true), (2, true), (3, true), (4, true), (5, true), (6, true), (7, true), (8, true), (9, true), (10, true), (11, true), (12, true), (13, true), (14, true), (15, true), (16, true), (17, true), (18, true), (19, true), (20, true), (21, true), (22, false), (23, true), (24, false)] (by kernel_rfl) (by kernel_rfl) rfl (by kernel_rfl) ?_ (fun hHeld => ?_)
          · (try dsimp only); exact ⟨c0, c1, c2⟩
          (refine wpL_calm (o := { dst := some 19, op := Go.Op.move (Go.Operand.tmp 7), type := 35, pos := "ref.go:54", after := #[], guard := none }) (v := ?_) rfl (Or.inl ⟨by rfl, ?_⟩) ?_; rotate_left; (focus (intro w hSw; (try dsimp only at hSw); go_simp; (try (with_reducible rfl)); done)); try simp only [Act.put, List.setIfInBounds_toArray, List.set_cons_zero, List.set_cons_succ])
          (refine wpL_calm (o := { dst := some 20, op := Go.Op.move (Go.Operand.tmp 9), type := 3, pos := "ref.go:54", after := #[], guard := none }) (v := ?_) rfl (Or.inl ⟨by rfl, ?_⟩) ?_; rotate_left; (focus (intro w hSw; (try dsimp only at hSw); go_simp; (try (with_reducible rfl)); done)); try simp only [Act.put, List.setIfInBounds_toArray, List.set_cons_zero, List.set_cons_succ])
          (refine wpL_calm (o := { dst := some 21, op := Go.Op.move (Go.Operand.tmp 8), type := 3, pos := "ref.go:54", after := #[], guard := none }) (v := ?_) rfl (Or.inl ⟨by rfl, ?_⟩) ?_; rotate_left; (focus (intro w hSw; (try dsimp only at hSw); go_simp; (try (with_reducible rfl)); done)); try simp only [Act.put, List.setIfInBounds_toArray, List.set_cons_zero, List.set_cons_succ])
          (refine wpL_calm (o := { dst := some 22, op := Go.Op.binOp Go.BinOp.mul 3 (Go.Operand.const (Go.Value.int Go.IntKind.i64 4)) (Go.Operand.tmp 21) 3, type := 3, pos := "ref.go:54", after := #[{ on := 2, ground := Go.Ground.data }], guard := none }) (v := ?_) rfl (Or.inl ⟨by rfl, ?_⟩) ?_; rotate_left; (focus (intro w hSw; (try dsimp only at hSw); go_simp; (try (with_reducible rfl)); done)); try simp only [Act.put, List.setIfInBounds_toArray, List.set_cons_zero, List.set_cons_succ])
          (refine wpL_calm (o := { dst := some 23, op := Go.Op.binOp Go.BinOp.add 3 (Go.Operand.tmp 20) (Go.Operand.tmp 22) 3, type := 3, pos := "ref.go:54", after := #[{ on := 1, ground := Go.Ground.data }, { on := 3, ground := Go.Ground.data }], guard := none }) (v := ?_) rfl (Or.inl ⟨by rfl, ?_⟩) ?_; rotate_left; (focus (intro w hSw; (try dsimp only at hSw); go_simp; (try (with_reducible rfl)); done)); try simp only [Act.put, List.setIfInBounds_toArray, List.set_cons_zero, List.set_cons_succ])
          (refine wpL_calm (o := { dst := some 24, op := Go.Op.move (Go.Operand.tmp 0), type := 35, pos := "ref.go:54", after := #[], guard := none }) (v := ?_) rfl (Or.inl ⟨by rfl, ?_⟩) ?_; rotate_left; (focus (intro w hSw; (try dsimp only at hSw); go_simp; (try (with_reducible rfl)); done)); try simp only [Act.put, List.setIfInBounds_toArray, List.set_cons_zero, List.set_cons_succ])
          (refine wpL_calm (o := { dst := some 25, op := Go.Op.move (Go.Operand.tmp 9), type := 3, pos := "ref.go:54", after := #[], guard := none }) (v := ?_) rfl (Or.inl ⟨by rfl, ?_⟩) ?_; rotate_left; (focus (intro w hSw; (try dsimp only at hSw); go_simp; (try (with_reducible rfl)); done)); try simp only [Act.put, List.setIfInBounds_toArray, List.set_cons_zero, List.set_cons_succ])
          (refine wpL_calm (o := { dst := some 26, op := Go.Op.move (Go.Operand.tmp 8), type := 3, pos := "ref.go:54", after := #[], guard := none }) (v := ?_) rfl (Or.inl ⟨by rfl, ?_⟩) ?_; rotate_left; (focus (intro w hSw; (try dsimp only at hSw); go_simp; (try (with_reducible rfl)); done)); try simp only [Act.put, List.setIfInBounds_toArray, List.set_cons_zero, List.set_cons_succ])
          (refine wpL_calm (o := { dst := some 27, op := Go.Op.binOp Go.BinOp.mul 3 (Go.Operand.const (Go.Value.int Go.IntKind.i64 4)) (Go.Operand.tmp 26) 3, type := 3, pos := "ref.go:54", after := #[{ on := 7, ground := Go.Ground.data }], guard := none }) (v := ?_) rfl (Or.inl ⟨by rfl, ?_⟩) ?_; rotate_left; (focus (intro w hSw; (try dsimp only at hSw); go_simp; (try (with_reducible rfl)); done)); try simp only [Act.put, List.setIfInBounds_toArray, List.set_cons_zero, List.set_cons_succ])
          (refine wpL_calm (o := { dst := some 28, op := Go.Op.binOp Go.BinOp.add 3 (Go.Operand.tmp 25) (Go.Operand.tmp 27) 3, type := 3, pos := "ref.go:54", after := #[{ on := 6, ground := Go.Ground.data }, { on := 8, ground := Go.Ground.data }], guard := none }) (v := ?_) rfl (Or.inl ⟨by rfl, ?_⟩) ?_; rotate_left; (focus (intro w hSw; (try dsimp only at hSw); go_simp; (try (with_reducible rfl)); done)); try simp only [Act.put, List.setIfInBounds_toArray, List.set_cons_zero, List.set_cons_succ])
          (refine wpL_calm (o := { dst := some 29, op := Go.Op.indexAddr 35 (Go.Operand.tmp 24) (Go.Operand.tmp 28), type := 0, pos := "ref.go:54", after := #[{ on := 5, ground := Go.Ground.data }, { on := 9, ground := Go.Ground.data }], guard := none }) (v := ?_) rfl (Or.inl ⟨by rfl, ?_⟩) ?_; rotate_left; (focus (intro w hSw; (try dsimp only at hSw); go_simp; (try (with_reducible rfl)); done)); try simp only [Act.put, List.setIfInBounds_toArray, List.set_cons_zero, List.set_cons_succ])
          (refine wpL_calm (o := { dst := some 30, op := Go.Op.load 3 (Go.Operand.tmp 29), type := 3, pos := "ref.go:54", after := #[{ on := 10, ground := Go.Ground.data }], guard := none }) (v := ?_) rfl (Or.inl ⟨by rfl, ?_⟩) ?_; rotate_left; (focus (intro w hSw; (try dsimp only at hSw); go_simp; (try (with_reducible rfl)); done)); try simp only [Act.put, List.setIfInBounds_toArray, List.set_cons_zero, List.set_cons_succ])
          (refine wpL_calm (o := { dst := some 31, op := Go.Op.move (Go.Operand.tmp 1), type := 33, pos := "ref.go:54", after := #[], guard := none }) (v := ?_) rfl (Or.inl ⟨by rfl, ?_⟩) ?_; rotate_left; (focus (intro w hSw; (try dsimp only at hSw); go_simp; (try (with_reducible rfl)); done)); try simp only [Act.put, List.setIfInBounds_toArray, List.set_cons_zero, List.set_cons_succ])
          (refine wpL_calm (o := { dst := some 32, op := Go.Op.move (Go.Operand.tmp 2), type := 3, pos := "ref.go:54", after := #[], guard := none }) (v := ?_) rfl (Or.inl ⟨by rfl, ?_⟩) ?_; rotate_left; (focus (intro w hSw; (try dsimp only at hSw); go_simp; (try (with_reducible rfl)); done)); try simp only [Act.put, List.setIfInBounds_toArray, List.set_cons_zero, List.set_cons_succ])
          (refine wpL_calm (o := { dst := some 33, op := Go.Op.binOp Go.BinOp.mul 3 (Go.Operand.const (Go.Value.int Go.IntKind.i64 4)) (Go.Operand.tmp 32) 3, type := 3, pos := "ref.go:54", after := #[{ on := 13, ground := Go.Ground.data }], guard := none }) (v := ?_) rfl (Or.inl ⟨by rfl, ?_⟩) ?_; rotate_left; (focus (intro w hSw; (try dsimp only at hSw); go_simp; (try (with_reducible rfl)); done)); try simp only [Act.put, List.setIfInBounds_toArray, List.set_cons_zero, List.set_cons_succ])
          (refine wpL_calm (o := { dst := some 34, op := Go.Op.move (Go.Operand.tmp 8), type := 3, pos := "ref.go:54", after := #[], guard := none }) (v := ?_) rfl (Or.inl ⟨by rfl, ?_⟩) ?_; rotate_left; (focus (intro w hSw; (try dsimp only at hSw); go_simp; (try (with_reducible rfl)); done)); try simp only [Act.put, List.setIfInBounds_toArray, List.set_cons_zero, List.set_cons_succ])
          (refine wpL_calm (o := { dst := some 35, op := Go.Op.binOp Go.BinOp.add 3 (Go.Operand.tmp 33) (Go.Operand.tmp 34) 3, type := 3, pos := "ref.go:54", after := #[{ on := 14, ground := Go.Ground.data }, { on := 15, ground := Go.Ground.data }], guard := none }) (v := ?_) rfl (Or.inl ⟨by rfl, ?_⟩) ?_; rotate_left; (focus (intro w hSw; (try dsimp only at hSw); go_simp; (try (with_reducible rfl)); done)); try simp only [Act.put, List.setIfInBounds_toArray, List.set_cons_zero, List.set_cons_succ])
          (refine wpL_calm (o := { dst := some 36, op := Go.Op.indexAddr 33 (Go.Operand.tmp 31) (Go.Operand.tmp 35), type := 0, pos := "ref.go:54", after := #[{ on := 12, ground := Go.Ground.data }, { on := 16, ground := Go.Ground.data }], guard := none }) (v := ?_) rfl (Or.inl ⟨by rfl, ?_⟩) ?_; rotate_left; (focus (intro w hSw; (try dsimp only at hSw); go_simp; (try (with_reducible rfl)); done)); try simp only [Act.put, List.setIfInBounds_toArray, List.set_cons_zero, List.set_cons_succ])
          (refine wpL_calm (o := { dst := some 37, op := Go.Op.load 35 (Go.Operand.tmp 36), type := 35, pos := "ref.go:54", after := #[{ on := 17, ground := Go.Ground.data }], guard := none }) (v := ?_) rfl (Or.inl ⟨by rfl, ?_⟩) ?_; rotate_left; (focus (intro w hSw; (try dsimp only at hSw); go_simp; (try (with_reducible rfl)); done)); try simp only [Act.put, List.setIfInBounds_toArray, List.set_cons_zero, List.set_cons_succ])
          (refine wpL_calm (o := { dst := some 38, op := Go.Op.move (Go.Operand.tmp 9), type := 3, pos := "ref.go:54", after := #[], guard := none }) (v := ?_) rfl (Or.inl ⟨by rfl, ?_⟩) ?_; rotate_left; (focus (intro w hSw; (try dsimp only at hSw); go_simp; (try (with_reducible rfl)); done)); try simp only [Act.put, List.setIfInBounds_toArray, List.set_cons_zero, List.set_cons_succ])
          (refine wpL_calm (o := { dst := some 39, op := Go.Op.indexAddr 35 (Go.Operand.tmp 37) (Go.Operand.tmp 38), type := 0, pos := "ref.go:54", after := #[{ on := 18, ground := Go.Ground.data }, { on := 19, ground := Go.Ground.data }], guard := none }) (v := ?_) rfl (Or.inl ⟨by rfl, ?_⟩) ?_; rotate_left; (focus (intro w hSw; (try dsimp only at hSw); go_simp; (try (with_reducible rfl)); done)); try simp only [Act.put, List.setIfInBounds_toArray, List.set_cons_zero, List.set_cons_succ])
          (refine wpL_calm (o := { dst := some 40, op := Go.Op.load 3 (Go.Operand.tmp 39), type := 3, pos := "ref.go:54", after := #[{ on := 20, ground := Go.Ground.data }], guard := none }) (v := ?_) rfl (Or.inl ⟨by rfl, ?_⟩) ?_; rotate_left; (focus (intro w hSw; (try dsimp only at hSw); go_simp; (try (with_reducible rfl)); done)); try simp only [Act.put, List.setIfInBounds_toArray, List.set_cons_zero, List.set_cons_succ])
          refine wpL_loud1 (o := { dst := some 41, op := Go.Op.call { callee := Go.Callee.value (Go.Operand.func 47), args := #[Go.Operand.tmp 30, Go.Operand.tmp 40], argTypes := #[3, 3] }, type := 3, pos := "ref.go:54", after := #[{ on := 11, ground := Go.Ground.data }, { on := 21, ground := Go.Ground.data }], guard := none }) rfl (fun K hK => ?_)
          (go_simp; go_at_call 47; refine (CA.out _).mono ?_; rintro e w' ⟨rfl, rfl⟩)
          try go_wp2_with fail
          refine hK.out _ _ ?_ (fun hHeld => ?_)
          · (try dsimp only); try trivial
          clear hK K
          try simp only [Act.put, List.setIfInBounds_toArray, List.set_cons_zero, List.set_cons_succ]
          (refine wpL_calm (o := { dst := some 42, op := Go.Op.indexAddr 35 (Go.Operand.tmp 19) (Go.Operand.tmp 23), type := 0, pos := "ref.go:54", after := #[{ on := 0, ground := Go.Ground.data }, { on := 4, ground := Go.Ground.data }, { on := 0, ground := Go.Ground.phase }, { on := 1, ground := Go.Ground.phase }, { on := 2, ground := Go.Ground.phase }, { on := 3, ground := Go.Ground.phase }, { on := 4, ground := Go.Ground.phase }, { on := 5, ground := Go.Ground.phase }, { on := 6, ground := Go.Ground.phase }, { on := 7, ground := Go.Ground.phase }, { on := 8, ground := Go.Ground.phase }, { on := 9, ground := Go.Ground.phase }, { on := 10, ground := Go.Ground.phase }, { on := 11, ground := Go.Ground.phase }, { on := 12, ground := Go.Ground.phase }, { on := 13, ground := Go.Ground.phase }, { on := 14, ground := Go.Ground.phase }, { on := 15, ground := Go.Ground.phase }, { on := 16, ground := Go.Ground.phase }, { on := 17, ground := Go.Ground.phase }, { on := 18, ground := Go.Ground.phase }, { on := 19, ground := Go.Ground.phase }, { on := 20, ground := Go.Ground.phase }, { on := 21, ground := Go.Ground.phase }, { on := 22, ground := Go.Ground.phase }], guard := none }) (v := ?_) rfl (Or.inl ⟨by rfl, ?_⟩) ?_; rotate_left; (focus (intro w hSw; (try dsimp only at hSw); go_simp; (try (with_reducible rfl)); done)); try simp only [Act.put, List.setIfInBounds_toArray, List.set_cons_zero, List.set_cons_succ])
          refine wpL_loud0 (o := { dst := none, op := Go.Op.store 3 (Go.Operand.tmp 42) (Go.Operand.tmp 41), type := 0, pos := "ref.go:54", after := #[{ on := 23, ground := Go.Ground.data }, { on := 22, ground := Go.Ground.data }, { on := 22, ground := Go.Ground.chain }, { on := 0, ground := Go.Ground.phase }, { on := 1, ground := Go.Ground.phase }, { on := 2, ground := Go.Ground.phase }, { on := 3, ground := Go.Ground.phase }, { on := 4, ground := Go.Ground.phase }, { on := 5, ground := Go.Ground.phase }, { on := 6, ground := Go.Ground.phase }, { on := 7, ground := Go.Ground.phase }, { on := 8, ground := Go.Ground.phase }, { on := 9, ground := Go.Ground.phase }, { on := 10, ground := Go.Ground.phase }, { on := 11, ground := Go.Ground.phase }, { on := 12, ground := Go.Ground.phase }, { on := 13, ground := Go.Ground.phase }, { on := 14, ground := Go.Ground.phase }, { on := 15, ground := Go.Ground.phase }, { on := 16, ground := Go.Ground.phase }, { on := 17, ground := Go.Ground.phase }, { on := 18, ground := Go.Ground.phase }, { on := 19, ground := Go.Ground.phase }, { on := 20, ground := Go.Ground.phase }, { on := 21, ground := Go.Ground.phase }, { on := 22, ground := Go.Ground.phase }], guard := none }) rfl (by kernel_rfl) (fun K hK => ?_)
          go_simp
          refine hK.out _ _ ?_
          clear hK K
          try simp only [Act.put, List.setIfInBounds_toArray, List.set_cons_zero, List.set_cons_succ]
          refine wpL_nil ?_
          refine NoPanic.normal ?_
          go_wp2_with fail
          go_roundw
          case rel => exact ⟨r + 1, by go_num, by omega, Lib.hid (by
            refine World.rowIs.congr (World.rowIs.set HR.out (r + 4 * c) (.int .i64 (z : Int))) fun j hj => ?_
            rw [HST.out j]
            by_cases e : j = r + 4 * c
            · rw [if_pos e, if_pos e]
            · rw [if_neg e, if_neg e]), Lib.hid (by first | exact HB.out.setCell (p := ⟨q, r + 4 * c, none⟩) (Nat.le_refl _) _ | exact (HB.out.setCell (p := ⟨q, r + 4 * c, none⟩) (Nat.le_refl _) _).drew | exact (HB.out.setCell (p := ⟨q, r + 4 * c, none⟩) (Nat.le_refl _) _).drew.drew)⟩
          case measure => simp [intOf]; omega
        · as_aux_lemma =>
          obtain rfl : r = 4 := by omega
          rw [show ((4 : Nat) : Int) = 4 from rfl]
          go_wp2_with fail
          go_roundw
          case rel => exact ⟨c + 1, by go_num, by omega, Lib.hid (by rw [show 4 * (c + 1) + 0 = 4 * c + 4 by omega]; exact HR.out), HB⟩
          case measure => simp [intOf]; omega
    · as_aux_lemma =>
      obtain rfl : c = 4 := by omega
      rw [show ((4 : Nat) : Int) = 4 from rfl]
      go_wp2_with fail
      go_ret
      refine ⟨by rw [hq.out]; rfl, ?_, ?_⟩
      · rw [hq.out]; exact (IAt.of_row HR.out).congr fun j hj => by unfold oF; rw [if_pos (show j < 4 * 4 + 0 by omega)]
      · exact B2.out.trans (by rw [hq.out]; exact HB.out)
end Go.Proofs.Ytbbanhjcchnhpaa
