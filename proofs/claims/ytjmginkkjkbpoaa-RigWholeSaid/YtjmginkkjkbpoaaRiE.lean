/- Package rig (cellaret): New. -/
import Derived.Test.YtjmginkkjkbpoaaRiD
namespace Go.Proofs.Ytjmginkkjkbpoaa
open Go.RowKit Go.Deep
set_option linter.unusedVariables false
set_option linter.unusedSimpArgs false
def rgS0 : RgS := ⟨zsB 96, false, 0, 0, 0, 0, ⟨#[]⟩, 0, 0⟩
def zeroB : Nat → Bk := ofB (zsB (64 * 288)) 288
theorem make96 (w : World) : (Instr.makeSlice 50 (.int .i64 96) (.int .i64 96)).run Try.prog w = .ok (.slice (some ⟨w.heap.size, 0, none⟩) 96 96) (w.alloc (.cells (madeCells #[.int .u8 0] 96) 5)) :=
  run_make_row' (P := Try.prog) 50 5 (.int .u8 0) 1 Try.underlying50 (by kernel_rfl) rfl .i64 .i64 96 (by omega) (by omega) (w := w)
theorem conv96 (w : World) : (convert 50 9 (.slice (some ⟨w.heap.size, 0, none⟩) 96 96)).run Try.prog (w.alloc (.cells (madeCells #[.int .u8 0] 96) 5)) = .ok (.string (zsB 96)) (w.alloc (.cells (madeCells #[.int .u8 0] 96) 5)) :=
  conv_row (P := Try.prog) (cap := 96) (W := 96) (dst := 9) (f := fun _ => 0) Try.underlying50 Try.underlying5 Try.underlying9 (World.rowIs_made w (.int .u8 0) 96 5) (Nat.le_refl _)
def rgW (v0 v1 : Value) (S : RgS) : Array Value := #[v0, v1, .string S.reg, .bool S.down, .int .i64 S.calls, .int .i64 S.st, .int .i64 S.d, .int .i64 S.i, .string S.s, .int .i64 S.arm, .int .i64 S.faulty]
/-- New's loop: what there is behind k devices. -/
def NewS (w0 : World) (R k : Nat) (w' : World) : Prop := Below w0.heap.size w0 w' ∧ w0.heap.size ≤ R ∧
  ((k = 0 ∧ w'.heap[R]? = some (.cells (rgW (.pointer none) (.pointer none) rgS0) 55 (0, 0))) ∨
   (k = 1 ∧ ∃ g0 r0, w'.heap[R]? = some (.cells (rgW (.pointer (some ⟨g0, 0, none⟩)) (.pointer none) rgS0) 55 (0, 0)) ∧ DvAt w' g0 r0 288 zeroB ∧ R < r0 ∧ r0 < g0) ∨
   (k = 2 ∧ ∃ p : RgP, p.R = R ∧ RgAt w0.heap.size w' p rgS0 zeroB zeroB))
theorem row_set {w : World} {R j : Nat} {v : Value} {cs : Array Value} {t : TypeId} (h : w.heap[R]? = some (.cells cs t (0, 0))) : (w.setCell ⟨R, j, none⟩ v).heap[R]? = some (.cells (cs.setIfInBounds j v) t (0, 0)) := by
  simp only [World.setCell]
  rw [Array.getElem?_modify, if_pos rfl, h]
  rfl
theorem NewS.one {w0 w1 w2 : World} {R g0 r0 : Nat} (h : NewS w0 R 0 w1) (hd : DvAt w2 g0 r0 288 zeroB) (hb : Below w1.heap.size w1 w2) (h1 : w1.heap.size ≤ r0) (h2 : r0 < g0) : NewS w0 R 1 (w2.setCell ⟨R, 0, none⟩ (.pointer (some ⟨g0, 0, none⟩))) := by
  obtain ⟨b, hR, h | h | h⟩ := h
  · obtain ⟨-, hr⟩ := h
    have hl := (Array.getElem?_eq_some_iff.1 hr).1
    have hr2 := (hb.block R hl).trans hr
    refine ⟨(b.trans (hb.mono b.size)).setCell (p := ⟨R, 0, none⟩) hR _, hR, Or.inr (Or.inl ⟨rfl, g0, r0, row_set hr2, ?_, by omega, h2⟩)⟩
    exact hd.off (Below.heap_setCell w2 ⟨R, 0, none⟩ _ _ (show g0 ≠ R by omega)) (Below.heap_setCell w2 ⟨R, 0, none⟩ _ _ (show r0 ≠ R by omega))
  · exact absurd h.1 (by decide)
  · exact absurd h.1 (by decide)
theorem NewS.two {w0 w1 w2 : World} {R g1 r1 : Nat} (h : NewS w0 R 1 w1) (hd : DvAt w2 g1 r1 288 zeroB) (hb : Below w1.heap.size w1 w2) (h1 : w1.heap.size ≤ r1) (h2 : r1 < g1) : NewS w0 R 2 (w2.setCell ⟨R, 1, none⟩ (.pointer (some ⟨g1, 0, none⟩))) := by
  obtain ⟨b, hR, h | h | h⟩ := h
  · exact absurd h.1 (by decide)
  · obtain ⟨-, g0, r0, hr, hd0, q1, q2⟩ := h
    have hl := (Array.getElem?_eq_some_iff.1 hr).1
    have hr2 := (hb.block R hl).trans hr
    have hg0 : g0 < w1.heap.size := block_lt_of_cell hd0.hd
    refine ⟨(b.trans (hb.mono b.size)).setCell (p := ⟨R, 1, none⟩) hR _, hR, Or.inr (Or.inr ⟨rfl, ⟨R, g0, r0, g1, r1⟩, rfl, row_set hr2, ?_, ?_, hR, q1, q2, (show g0 < r1 by omega), h2⟩)⟩
    · exact (hd0.below hb).off (Below.heap_setCell w2 ⟨R, 1, none⟩ _ _ (show g0 ≠ R by omega)) (Below.heap_setCell w2 ⟨R, 1, none⟩ _ _ (show r0 ≠ R by omega))
    · exact hd.off (Below.heap_setCell w2 ⟨R, 1, none⟩ _ _ (show g1 ≠ R by omega)) (Below.heap_setCell w2 ⟨R, 1, none⟩ _ _ (show r1 ≠ R by omega))
  · exact absurd h.1 (by decide)
theorem NewS.free {w0 w' : World} {R k : Nat} (h : NewS w0 R k w') : (∀ j, w'.frozen? ⟨R, j, none⟩ = false) ∧ ∃ v0 v1, w'.cell? ⟨R, 0, none⟩ = some v0 ∧ w'.cell? ⟨R, 1, none⟩ = some v1 ∧ R < w'.heap.size := by
  obtain ⟨b, hR, h | h | h⟩ := h
  · exact ⟨fun j => frozen_of_row _ _ j _ _ h.2, _, _, cell_of_row _ _ 0 _ _ _ h.2, cell_of_row _ _ 1 _ _ _ h.2, (Array.getElem?_eq_some_iff.1 h.2).1⟩
  · obtain ⟨-, g0, r0, hr, -⟩ := h
    exact ⟨fun j => frozen_of_row _ _ j _ _ hr, _, _, cell_of_row _ _ 0 _ _ _ hr, cell_of_row _ _ 1 _ _ _ hr, (Array.getElem?_eq_some_iff.1 hr).1⟩
  · obtain ⟨-, p, rfl, hr⟩ := h
    exact ⟨fun j => hr.free j, _, _, hr.cells.1, hr.cells.2.1, hr.lt⟩
set_option maxRecDepth 100000 in
set_option maxHeartbeats 2000000 in
theorem rigNew_any (w : World) : Calls Try.prog 5 #[] w fun e w' => ∃ p : RgP, e = .returned (.pointer (some ⟨p.R, 0, none⟩)) ∧ RgAt w.heap.size w' p rgS0 zeroB zeroB ∧ Below w.heap.size w w' := by
  have CN := Lib.hid (fun w => new_okO 288 w (by omega) (by omega))
  rw [show ((288 : Nat) : Int) = 288 from rfl] at CN
  have hmk := make96 w
  have hcv := conv96 w
  obtain ⟨w1, HW, HN⟩ : ∃ w1, Hid ((w.alloc (.cells (madeCells #[.int .u8 0] 96) 5)).alloc (.cells #[.pointer none, .pointer none, .string (zsB 96), .bool false, .int .i64 0, .int .i64 0, .int .i64 0, .int .i64 0, .string ⟨#[]⟩, .int .i64 0, .int .i64 0] 55) = w1) ∧ Hid (NewS w (w.heap.size + 1) 0 w1) := by
    have h := heap_alloc_new (w.alloc (.cells (madeCells #[.int .u8 0] 96) 5)) (.cells #[.pointer none, .pointer none, .string (zsB 96), .bool false, .int .i64 0, .int .i64 0, .int .i64 0, .int .i64 0, .string ⟨#[]⟩, .int .i64 0, .int .i64 0] 55)
    rw [show (w.alloc (.cells (madeCells #[.int .u8 0] 96) 5)).heap.size = w.heap.size + 1 by simp] at h
    exact ⟨_, Lib.hid rfl, Lib.hid ⟨((Below.refl _ _).alloc (Nat.le_refl _) _).alloc (by simp) _, Nat.le_succ _, Or.inl ⟨rfl, h⟩⟩⟩
  obtain ⟨z, hz⟩ : ∃ z, Hid (zsB 96 = z) := ⟨_, Lib.hid rfl⟩
  rw [hz.out] at hcv HW
  go_enter Try.func5, Try.ntmps5
  go_upto_region 2 with fail
  rw [HW.out]
  clear HW hmk hcv
  obtain ⟨R, hR⟩ : ∃ R, Hid (w.heap.size + 1 = R) := ⟨_, Lib.hid rfl⟩
  rw [hR.out] at HN ⊢
  go_wp2_with fail
  go_loopw [7] (fun x wi => ∃ k : Nat, x = .int .i64 (k : Int) ∧ k ≤ 2 ∧ Hid (NewS w R k wi)) (fun x _ => 2 - (intOf x).toNat)
  case atStart => exact ⟨0, rfl, by omega, HN⟩
  clear HN
  case round =>
    obtain ⟨k, rfl, hk, HN⟩ := hrel
    by_cases hlt : k < 2
    · obtain ⟨hf, v0, v1, c0, c1, hRl⟩ := HN.out.free
      have f0 := hf 0
      have f1 := hf 1
      clear hf
      rcases (show k = 0 ∨ k = 1 by omega) with rfl | rfl
      · rw [show ((0 : Nat) : Int) = 0 from rfl]
        clear hk hlt
        go_upto_region 5 with fail
        refine wp_region_lin_all (S := (fun w' => True)) [(0, true), (1, true), (6, true), (7, true), (2, false), (3, true), (4, true), (5, true), (8, true), (9, false)] (by kernel_rfl) (by kernel_rfl) rfl (by kernel_rfl) ?_ (fun hHeld => ?_)
        · (try dsimp only); try exact trivial
        refine wpL_calm (o := { dst := some 11, op := Go.Op.move (Go.Operand.tmp 1), type := 23, pos := "rig.go:30", after := #[], guard := none }) (v := ?_) rfl (Or.inl ⟨by rfl, ?_⟩) ?_; rotate_left; (focus (intro w hSw; (try dsimp only at hSw); go_simp; (try (with_reducible rfl)); done)); try simp only [Act.put, List.setIfInBounds_toArray, List.set_cons_zero, List.set_cons_succ]
        refine wpL_calm (o := { dst := some 12, op := Go.Op.move (Go.Operand.tmp 2), type := 3, pos := "rig.go:30", after := #[], guard := none }) (v := ?_) rfl (Or.inl ⟨by rfl, ?_⟩) ?_; rotate_left; (focus (intro w hSw; (try dsimp only at hSw); go_simp; (try (with_reducible rfl)); done)); try simp only [Act.put, List.setIfInBounds_toArray, List.set_cons_zero, List.set_cons_succ]
        refine wpL_calm (o := { dst := some 16, op := Go.Op.nilCheck (Go.Operand.tmp 11), type := 0, pos := "rig.go:30", after := #[{ on := 0, ground := Go.Ground.data }], guard := none }) (v := ?_) rfl (Or.inl ⟨by rfl, ?_⟩) ?_; rotate_left; (focus (intro w hSw; (try dsimp only at hSw); go_simp; (try (with_reducible rfl)); done)); try simp only [Act.put, List.setIfInBounds_toArray, List.set_cons_zero, List.set_cons_succ]
        refine wpL_calm (o := { dst := some 17, op := Go.Op.fieldAddr 55 (Go.Operand.tmp 16) 0, type := 0, pos := "rig.go:30", after := #[{ on := 6, ground := Go.Ground.data }], guard := none }) (v := ?_) rfl (Or.inl ⟨by rfl, ?_⟩) ?_; rotate_left; (focus (intro w hSw; (try dsimp only at hSw); go_simp; (try (with_reducible rfl)); done)); try simp only [Act.put, List.setIfInBounds_toArray, List.set_cons_zero, List.set_cons_succ]
        refine wpL_loud1 (o := { dst := some 13, op := Go.Op.call { callee := Go.Callee.value (Go.Operand.func 26), args := #[Go.Operand.const (Go.Value.int Go.IntKind.i64 288)], argTypes := #[3] }, type := 56, pos := "rig.go:30", after := #[], guard := none }) rfl (fun K hK => ?_)
        (go_simp; go_at_call 26; refine (CN.out _).mono ?_; rintro e w2 ⟨g, r, rfl, hd, hb, h1, h2⟩)
        try go_wp2_with fail
        refine hK.out _ _ ?_ (fun hHeld => ?_)
        · (try dsimp only); try trivial
        clear hK K
        try simp only [Act.put, List.setIfInBounds_toArray, List.set_cons_zero, List.set_cons_succ]
        have b0 := (hb.cell (p := ⟨R, 0, none⟩) hRl).trans c0
        have b1 := (hb.frozen (p := ⟨R, 0, none⟩) hRl).trans f0
        have HD := Lib.hid (HN.out.one hd ((Below.refl _ _).drew.trans hb) h1 h2)
        clear hd hb
        refine wpL_calm (o := { dst := some 10, op := Go.Op.move (Go.Operand.tmp 13), type := 56, pos := "rig.go:30", after := #[{ on := 2, ground := Go.Ground.data }], guard := none }) (v := ?_) rfl (Or.inl ⟨by rfl, ?_⟩) ?_; rotate_left; (focus (intro w hSw; (try dsimp only at hSw); go_simp; (try (with_reducible rfl)); done)); try simp only [Act.put, List.setIfInBounds_toArray, List.set_cons_zero, List.set_cons_succ]
        refine wpL_calm (o := { dst := some 14, op := Go.Op.extract (Go.Operand.tmp 10) 0, type := 44, pos := "rig.go:30", after := #[{ on := 3, ground := Go.Ground.data }], guard := none }) (v := ?_) rfl (Or.inl ⟨by rfl, ?_⟩) ?_; rotate_left; (focus (intro w hSw; (try dsimp only at hSw); go_simp; (try (with_reducible rfl)); done)); try simp only [Act.put, List.setIfInBounds_toArray, List.set_cons_zero, List.set_cons_succ]
        refine wpL_calm (o := { dst := some 15, op := Go.Op.extract (Go.Operand.tmp 10) 1, type := 36, pos := "rig.go:30", after := #[{ on := 3, ground := Go.Ground.data }, { on := 9, ground := Go.Ground.gcOnly Go.Departure.lateStores }], guard := none }) (v := ?_) rfl (Or.inl ⟨by rfl, ?_⟩) ?_; rotate_left; (focus (intro w hSw; (try dsimp only at hSw); go_simp; (try (with_reducible rfl)); done)); try simp only [Act.put, List.setIfInBounds_toArray, List.set_cons_zero, List.set_cons_succ]
        refine wpL_calm (o := { dst := some 18, op := Go.Op.indexAddr 51 (Go.Operand.tmp 17) (Go.Operand.tmp 12), type := 0, pos := "rig.go:30", after := #[{ on := 7, ground := Go.Ground.data }, { on := 1, ground := Go.Ground.data }, { on := 0, ground := Go.Ground.phase }, { on := 1, ground := Go.Ground.phase }, { on := 2, ground := Go.Ground.phase }, { on := 3, ground := Go.Ground.phase }, { on := 4, ground := Go.Ground.phase }, { on := 5, ground := Go.Ground.textOnly Go.Departure.lateStores }], guard := none }) (v := ?_) rfl (Or.inl ⟨by rfl, ?_⟩) ?_; rotate_left; (focus (intro w hSw; (try dsimp only at hSw); go_simp; (try (with_reducible rfl)); done)); try simp only [Act.put, List.setIfInBounds_toArray, List.set_cons_zero, List.set_cons_succ]
        refine wpL_loud1 (o := { dst := none, op := Go.Op.store 44 (Go.Operand.tmp 18) (Go.Operand.tmp 14), type := 0, pos := "rig.go:30", after := #[{ on := 8, ground := Go.Ground.data }, { on := 4, ground := Go.Ground.data }, { on := 2, ground := Go.Ground.chain }, { on := 0, ground := Go.Ground.phase }, { on := 1, ground := Go.Ground.phase }, { on := 2, ground := Go.Ground.phase }, { on := 3, ground := Go.Ground.phase }, { on := 4, ground := Go.Ground.phase }, { on := 5, ground := Go.Ground.textOnly Go.Departure.lateStores }], guard := none }) rfl (fun K hK => ?_)
        go_simp
        refine hK.out _ _ ?_ (fun hHeld => ?_)
        · (try dsimp only); try trivial
        clear hK K
        try simp only [Act.put, List.setIfInBounds_toArray, List.set_cons_zero, List.set_cons_succ]
        refine wpL_nil ?_
        refine NoPanic.normal ?_
        clear hHeld b0 b1 h1 h2 HN
        go_wp2_with fail
        go_roundw
        case rel => exact ⟨1, rfl, by omega, HD⟩
        case measure => simp [intOf]
      · rw [show ((1 : Nat) : Int) = 1 from rfl]
        clear hk hlt
        go_upto_region 5 with fail
        refine wp_region_lin_all (S := (fun w' => True)) [(0, true), (1, true), (6, true), (7, true), (2, false), (3, true), (4, true), (5, true), (8, true), (9, false)] (by kernel_rfl) (by kernel_rfl) rfl (by kernel_rfl) ?_ (fun hHeld => ?_)
        · (try dsimp only); try exact trivial
        refine wpL_calm (o := { dst := some 11, op := Go.Op.move (Go.Operand.tmp 1), type := 23, pos := "rig.go:30", after := #[], guard := none }) (v := ?_) rfl (Or.inl ⟨by rfl, ?_⟩) ?_; rotate_left; (focus (intro w hSw; (try dsimp only at hSw); go_simp; (try (with_reducible rfl)); done)); try simp only [Act.put, List.setIfInBounds_toArray, List.set_cons_zero, List.set_cons_succ]
        refine wpL_calm (o := { dst := some 12, op := Go.Op.move (Go.Operand.tmp 2), type := 3, pos := "rig.go:30", after := #[], guard := none }) (v := ?_) rfl (Or.inl ⟨by rfl, ?_⟩) ?_; rotate_left; (focus (intro w hSw; (try dsimp only at hSw); go_simp; (try (with_reducible rfl)); done)); try simp only [Act.put, List.setIfInBounds_toArray, List.set_cons_zero, List.set_cons_succ]
        refine wpL_calm (o := { dst := some 16, op := Go.Op.nilCheck (Go.Operand.tmp 11), type := 0, pos := "rig.go:30", after := #[{ on := 0, ground := Go.Ground.data }], guard := none }) (v := ?_) rfl (Or.inl ⟨by rfl, ?_⟩) ?_; rotate_left; (focus (intro w hSw; (try dsimp only at hSw); go_simp; (try (with_reducible rfl)); done)); try simp only [Act.put, List.setIfInBounds_toArray, List.set_cons_zero, List.set_cons_succ]
        refine wpL_calm (o := { dst := some 17, op := Go.Op.fieldAddr 55 (Go.Operand.tmp 16) 0, type := 0, pos := "rig.go:30", after := #[{ on := 6, ground := Go.Ground.data }], guard := none }) (v := ?_) rfl (Or.inl ⟨by rfl, ?_⟩) ?_; rotate_left; (focus (intro w hSw; (try dsimp only at hSw); go_simp; (try (with_reducible rfl)); done)); try simp only [Act.put, List.setIfInBounds_toArray, List.set_cons_zero, List.set_cons_succ]
        refine wpL_loud1 (o := { dst := some 13, op := Go.Op.call { callee := Go.Callee.value (Go.Operand.func 26), args := #[Go.Operand.const (Go.Value.int Go.IntKind.i64 288)], argTypes := #[3] }, type := 56, pos := "rig.go:30", after := #[], guard := none }) rfl (fun K hK => ?_)
        (go_simp; go_at_call 26; refine (CN.out _).mono ?_; rintro e w2 ⟨g, r, rfl, hd, hb, h1, h2⟩)
        try go_wp2_with fail
        refine hK.out _ _ ?_ (fun hHeld => ?_)
        · (try dsimp only); try trivial
        clear hK K
        try simp only [Act.put, List.setIfInBounds_toArray, List.set_cons_zero, List.set_cons_succ]
        have b0 := (hb.cell (p := ⟨R, 1, none⟩) hRl).trans c1
        have b1 := (hb.frozen (p := ⟨R, 1, none⟩) hRl).trans f1
        have HD := Lib.hid (HN.out.two hd ((Below.refl _ _).drew.trans hb) h1 h2)
        clear hd hb
        refine wpL_calm (o := { dst := some 10, op := Go.Op.move (Go.Operand.tmp 13), type := 56, pos := "rig.go:30", after := #[{ on := 2, ground := Go.Ground.data }], guard := none }) (v := ?_) rfl (Or.inl ⟨by rfl, ?_⟩) ?_; rotate_left; (focus (intro w hSw; (try dsimp only at hSw); go_simp; (try (with_reducible rfl)); done)); try simp only [Act.put, List.setIfInBounds_toArray, List.set_cons_zero, List.set_cons_succ]
        refine wpL_calm (o := { dst := some 14, op := Go.Op.extract (Go.Operand.tmp 10) 0, type := 44, pos := "rig.go:30", after := #[{ on := 3, ground := Go.Ground.data }], guard := none }) (v := ?_) rfl (Or.inl ⟨by rfl, ?_⟩) ?_; rotate_left; (focus (intro w hSw; (try dsimp only at hSw); go_simp; (try (with_reducible rfl)); done)); try simp only [Act.put, List.setIfInBounds_toArray, List.set_cons_zero, List.set_cons_succ]
        refine wpL_calm (o := { dst := some 15, op := Go.Op.extract (Go.Operand.tmp 10) 1, type := 36, pos := "rig.go:30", after := #[{ on := 3, ground := Go.Ground.data }, { on := 9, ground := Go.Ground.gcOnly Go.Departure.lateStores }], guard := none }) (v := ?_) rfl (Or.inl ⟨by rfl, ?_⟩) ?_; rotate_left; (focus (intro w hSw; (try dsimp only at hSw); go_simp; (try (with_reducible rfl)); done)); try simp only [Act.put, List.setIfInBounds_toArray, List.set_cons_zero, List.set_cons_succ]
        refine wpL_calm (o := { dst := some 18, op := Go.Op.indexAddr 51 (Go.Operand.tmp 17) (Go.Operand.tmp 12), type := 0, pos := "rig.go:30", after := #[{ on := 7, ground := Go.Ground.data }, { on := 1, ground := Go.Ground.data }, { on := 0, ground := Go.Ground.phase }, { on := 1, ground := Go.Ground.phase }, { on := 2, ground := Go.Ground.phase }, { on := 3, ground := Go.Ground.phase }, { on := 4, ground := Go.Ground.phase }, { on := 5, ground := Go.Ground.textOnly Go.Departure.lateStores }], guard := none }) (v := ?_) rfl (Or.inl ⟨by rfl, ?_⟩) ?_; rotate_left; (focus (intro w hSw; (try dsimp only at hSw); go_simp; (try (with_reducible rfl)); done)); try simp only [Act.put, List.setIfInBounds_toArray, List.set_cons_zero, List.set_cons_succ]
        refine wpL_loud1 (o := { dst := none, op := Go.Op.store 44 (Go.Operand.tmp 18) (Go.Operand.tmp 14), type := 0, pos := "rig.go:30", after := #[{ on := 8, ground := Go.Ground.data }, { on := 4, ground := Go.Ground.data }, { on := 2, ground := Go.Ground.chain }, { on := 0, ground := Go.Ground.phase }, { on := 1, ground := Go.Ground.phase }, { on := 2, ground := Go.Ground.phase }, { on := 3, ground := Go.Ground.phase }, { on := 4, ground := Go.Ground.phase }, { on := 5, ground := Go.Ground.textOnly Go.Departure.lateStores }], guard := none }) rfl (fun K hK => ?_)
        go_simp
        refine hK.out _ _ ?_ (fun hHeld => ?_)
        · (try dsimp only); try trivial
        clear hK K
        try simp only [Act.put, List.setIfInBounds_toArray, List.set_cons_zero, List.set_cons_succ]
        refine wpL_nil ?_
        refine NoPanic.normal ?_
        clear hHeld b0 b1 h1 h2 HN
        go_wp2_with fail
        go_roundw
        case rel => exact ⟨2, rfl, by omega, HD⟩
        case measure => simp [intOf]
    · obtain rfl : k = 2 := by omega
      rcases HN.out with ⟨hB, -, h | h | ⟨-, p, hp, hr⟩⟩
      · exact absurd h.1 (by decide)
      · exact absurd h.1 (by decide)
      · have HR := Lib.hid hr
        have HB := Lib.hid hB
        clear hr hB
        subst hp
        go_wp2_with fail
        go_ret
        exact ⟨p, rfl, HR.out, HB.out⟩
end Go.Proofs.Ytjmginkkjkbpoaa
