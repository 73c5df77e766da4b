/- Package rig (cellaret): Crash; a nil rig. -/
import Derived.Test.YtjmginkkjkbpoaaRiK
namespace Go.Proofs.Ytjmginkkjkbpoaa
open Go.RowKit Go.Deep
set_option linter.unusedVariables false
set_option linter.unusedSimpArgs false
def RgS.crash (S : RgS) : RgS := ⟨S.reg, false, S.calls, 0, 0, 0, ⟨#[]⟩, 0, 0⟩
set_option maxRecDepth 100000 in
set_option maxHeartbeats 2000000 in
theorem rigCrash_any (B : Nat) (p : RgP) (S : RgS) (c0 c1 : Nat → Bk) (X Y : LsV) (w : World) (hR : RgAt B w p S c0 c1) (hB : B ≤ w.heap.size) (h0 : TxB 288 c0) (h1 : TxB 288 c1) (hX : LsAt w X) (hY : LsAt w Y) (oX : LsOff X p.r0) (oY0 : LsOff Y p.r0) (oY : LsOff Y p.r1) :
    Calls Try.prog 14 #[.pointer (some ⟨p.R, 0, none⟩), .agg X.cells, .agg Y.cells] w fun e w' => e = .returned (.int .i64 0) ∧ RgAt B w' p S.crash (stB c0 (fun i => lfT X i (c0 i)) 288) (stB c1 (fun i => lfT Y i (c1 i)) 288) ∧ Kq B p.l w w' := by
  have hs1 : (w.alloc (.cells X.cells 32)).heap.size = w.heap.size + 1 := by simp
  have hn := heap_alloc_new (w.alloc (.cells X.cells 32)) (.cells Y.cells 32)
  have ho := heap_alloc_old (w.alloc (.cells X.cells 32)) (.cells Y.cells 32) (show w.heap.size < _ by rw [hs1]; omega)
  rw [heap_alloc_new] at ho
  rw [hs1] at hn
  obtain ⟨w1, HW, HB1, HX1, HY1⟩ : ∃ w1, Hid ((w.alloc (.cells X.cells 32)).alloc (.cells Y.cells 32) = w1) ∧ Hid (Below w.heap.size w w1) ∧ Hid (w1.heap[w.heap.size]? = some (.cells X.cells 32 (0, 0))) ∧ Hid (w1.heap[w.heap.size + 1]? = some (.cells Y.cells 32 (0, 0))) := ⟨_, Lib.hid rfl, Lib.hid (((Below.refl _ _).alloc (Nat.le_refl _) _).alloc (by simp) _), Lib.hid ho, Lib.hid hn⟩
  clear hs1 hn ho
  have HR1 := Lib.hid (hR.below HB1.out)
  have hg1 : p.g1 < w.heap.size := hR.bound
  have HK1 : Hid (Kq B p.l w w1) := Lib.hid (Kq.of_below HB1.out hB)
  have C0 := Lib.hid (fun w hD hL => crash_any p.g0 p.r0 288 c0 X w hD (by omega) h0 hL oX)
  have C1 := Lib.hid (fun w hD hL => crash_any p.g1 p.r1 288 c1 Y w hD (by omega) h1 hL oY)
  have LX := Lib.hid (hX.bel HB1.out)
  have LY := Lib.hid (hY.bel HB1.out)
  have OY := Lib.hid oY0
  have HN : Hid (w.heap.size ≠ p.r0 ∧ w.heap.size + 1 ≠ p.r0 ∧ w.heap.size + 1 ≠ p.r1) := Lib.hid (by have o := hR.ok; have := o.b1; have := o.b2; have := o.b3; omega)
  clear hR h0 h1 hX hY oX oY0 oY hg1
  have x0 := cell_of_row _ _ 0 _ _ _ HX1.out
  have x1 := cell_of_row _ _ 1 _ _ _ HX1.out
  have x2 := cell_of_row _ _ 2 _ _ _ HX1.out
  obtain ⟨q0, -⟩ := HR1.out.cells
  unfold LsV.cells at HW x0 x1 x2 C0 C1 HY1
  unfold LsV.cells
  go_enter Try.func14, Try.ntmps14
  go_upto_region 1 with fail
  rw [HW.out]
  clear HW
  go_upto_region 3 with fail
  refine wp_region_lin (S := (fun w' => w'.cell? ⟨p.R, 0, none⟩ = some (.pointer (some ⟨p.g0, 0, none⟩)) ∧ w'.cell? ⟨w.heap.size, 0, none⟩ = some (.slice X.ao X.kl X.kc) ∧ w'.cell? ⟨w.heap.size, 1, none⟩ = some (.int .i64 X.torn) ∧ w'.cell? ⟨w.heap.size, 2, none⟩ = some (.int .i64 X.bytes))) [(0, true), (1, true), (2, true), (3, true), (4, true), (5, true), (6, false)] (by kernel_rfl) (by kernel_rfl) rfl (by kernel_rfl) ?_ (fun hHeld => ?_)
  · (try dsimp only); exact ⟨q0, x0, x1, x2⟩
  refine wpL_calm (o := { dst := some 9, op := Go.Op.move (Go.Operand.tmp 0), type := 23, pos := "rig.go:200", after := #[], guard := none }) (v := ?_) rfl (Or.inl ⟨by rfl, ?_⟩) ?_; rotate_left; (focus (intro w hSw; (try dsimp only at hSw); go_simp; (try (with_reducible rfl)); done)); try simp only [Act.put, List.setIfInBounds_toArray, List.set_cons_zero, List.set_cons_succ]
  refine wpL_calm (o := { dst := some 10, op := Go.Op.nilCheck (Go.Operand.tmp 9), type := 0, pos := "rig.go:200", after := #[{ on := 0, ground := Go.Ground.data }], guard := none }) (v := ?_) rfl (Or.inl ⟨by rfl, ?_⟩) ?_; rotate_left; (focus (intro w hSw; (try dsimp only at hSw); go_simp; (try (with_reducible rfl)); done)); try simp only [Act.put, List.setIfInBounds_toArray, List.set_cons_zero, List.set_cons_succ]
  refine wpL_calm (o := { dst := some 11, op := Go.Op.fieldAddr 55 (Go.Operand.tmp 10) 0, type := 0, pos := "rig.go:200", after := #[{ on := 1, ground := Go.Ground.data }], guard := none }) (v := ?_) rfl (Or.inl ⟨by rfl, ?_⟩) ?_; rotate_left; (focus (intro w hSw; (try dsimp only at hSw); go_simp; (try (with_reducible rfl)); done)); try simp only [Act.put, List.setIfInBounds_toArray, List.set_cons_zero, List.set_cons_succ]
  refine wpL_calm (o := { dst := some 12, op := Go.Op.indexAddr 51 (Go.Operand.tmp 11) (Go.Operand.const (Go.Value.int Go.IntKind.i64 0)), type := 0, pos := "rig.go:200", after := #[{ on := 2, ground := Go.Ground.data }], guard := none }) (v := ?_) rfl (Or.inl ⟨by rfl, ?_⟩) ?_; rotate_left; (focus (intro w hSw; (try dsimp only at hSw); go_simp; (try (with_reducible rfl)); done)); try simp only [Act.put, List.setIfInBounds_toArray, List.set_cons_zero, List.set_cons_succ]
  refine wpL_calm (o := { dst := some 13, op := Go.Op.load 44 (Go.Operand.tmp 12), type := 44, pos := "rig.go:200", after := #[{ on := 3, ground := Go.Ground.data }], guard := none }) (v := ?_) rfl (Or.inl ⟨by rfl, ?_⟩) ?_; rotate_left; (focus (intro w hSw; (try dsimp only at hSw); go_simp; (try (with_reducible rfl)); done)); try simp only [Act.put, List.setIfInBounds_toArray, List.set_cons_zero, List.set_cons_succ]
  refine wpL_calm (o := { dst := some 14, op := Go.Op.load 32 (Go.Operand.tmp 4), type := 32, pos := "rig.go:200", after := #[], guard := none }) (v := ?_) rfl (Or.inl ⟨by rfl, ?_⟩) ?_; rotate_left; (focus (intro w hSw; (try dsimp only at hSw); go_simp; (try (with_reducible rfl)); done)); try simp only [Act.put, List.setIfInBounds_toArray, List.set_cons_zero, List.set_cons_succ]
  refine wpL_loud0 (o := { dst := some 15, op := Go.Op.call { callee := Go.Callee.value (Go.Operand.func 41), args := #[Go.Operand.tmp 13, Go.Operand.tmp 14], argTypes := #[44, 32] }, type := 36, pos := "rig.go:200", after := #[{ on := 4, ground := Go.Ground.data }, { on := 5, ground := Go.Ground.data }], guard := none }) rfl (by kernel_rfl) (fun K hK => ?_)
  (go_simp; go_at_call 41; refine (C0.out _ HR1.out.drew.d0 (LX.out.bel (Below.refl _ _).drew)).mono ?_; rintro e w2 ⟨rfl, hd, hk⟩)
  try go_wp2_with fail
  refine hK.out _ _ ?_
  clear hK K
  try simp only [Act.put, List.setIfInBounds_toArray, List.set_cons_zero, List.set_cons_succ]
  refine wpL_nil ?_
  refine NoPanic.normal ?_
  clear hHeld x0 x1 x2 q0
  have HR2 := Lib.hid (HR1.out.drew.dev0 hd hk)
  have HK2 := Lib.hid (HK1.out.drew.trans (HR1.out.drew.kq0 hk))
  have HY2 := Lib.hid (hk.row HN.out.2.1 (show w1.drew.heap[w.heap.size + 1]? = _ from HY1.out))
  have LY2 := Lib.hid (LsAt.kp (LY.out.bel (Below.refl _ _).drew) OY.out hk)
  clear hd hk HR1 HK1 HY1 LY LX C0
  have x0 := cell_of_row _ _ 0 _ _ _ HY2.out
  have x1 := cell_of_row _ _ 1 _ _ _ HY2.out
  have x2 := cell_of_row _ _ 2 _ _ _ HY2.out
  obtain ⟨-, q1, -⟩ := HR2.out.cells
  go_upto_region 4 with fail
  refine wp_region_lin (S := (fun w' => w'.cell? ⟨p.R, 1, none⟩ = some (.pointer (some ⟨p.g1, 0, none⟩)) ∧ w'.cell? ⟨w.heap.size + 1, 0, none⟩ = some (.slice Y.ao Y.kl Y.kc) ∧ w'.cell? ⟨w.heap.size + 1, 1, none⟩ = some (.int .i64 Y.torn) ∧ w'.cell? ⟨w.heap.size + 1, 2, none⟩ = some (.int .i64 Y.bytes))) [(0, true), (1, true), (2, true), (3, true), (4, true), (5, true), (6, false)] (by kernel_rfl) (by kernel_rfl) rfl (by kernel_rfl) ?_ (fun hHeld => ?_)
  · (try dsimp only); exact ⟨q1, x0, x1, x2⟩
  refine wpL_calm (o := { dst := some 16, op := Go.Op.move (Go.Operand.tmp 0), type := 23, pos := "rig.go:201", after := #[], guard := none }) (v := ?_) rfl (Or.inl ⟨by rfl, ?_⟩) ?_; rotate_left; (focus (intro w hSw; (try dsimp only at hSw); go_simp; (try (with_reducible rfl)); done)); try simp only [Act.put, List.setIfInBounds_toArray, List.set_cons_zero, List.set_cons_succ]
  refine wpL_calm (o := { dst := some 17, op := Go.Op.nilCheck (Go.Operand.tmp 16), type := 0, pos := "rig.go:201", after := #[{ on := 0, ground := Go.Ground.data }], guard := none }) (v := ?_) rfl (Or.inl ⟨by rfl, ?_⟩) ?_; rotate_left; (focus (intro w hSw; (try dsimp only at hSw); go_simp; (try (with_reducible rfl)); done)); try simp only [Act.put, List.setIfInBounds_toArray, List.set_cons_zero, List.set_cons_succ]
  refine wpL_calm (o := { dst := some 18, op := Go.Op.fieldAddr 55 (Go.Operand.tmp 17) 0, type := 0, pos := "rig.go:201", after := #[{ on := 1, ground := Go.Ground.data }], guard := none }) (v := ?_) rfl (Or.inl ⟨by rfl, ?_⟩) ?_; rotate_left; (focus (intro w hSw; (try dsimp only at hSw); go_simp; (try (with_reducible rfl)); done)); try simp only [Act.put, List.setIfInBounds_toArray, List.set_cons_zero, List.set_cons_succ]
  refine wpL_calm (o := { dst := some 19, op := Go.Op.indexAddr 51 (Go.Operand.tmp 18) (Go.Operand.const (Go.Value.int Go.IntKind.i64 1)), type := 0, pos := "rig.go:201", after := #[{ on := 2, ground := Go.Ground.data }], guard := none }) (v := ?_) rfl (Or.inl ⟨by rfl, ?_⟩) ?_; rotate_left; (focus (intro w hSw; (try dsimp only at hSw); go_simp; (try (with_reducible rfl)); done)); try simp only [Act.put, List.setIfInBounds_toArray, List.set_cons_zero, List.set_cons_succ]
  refine wpL_calm (o := { dst := some 20, op := Go.Op.load 44 (Go.Operand.tmp 19), type := 44, pos := "rig.go:201", after := #[{ on := 3, ground := Go.Ground.data }], guard := none }) (v := ?_) rfl (Or.inl ⟨by rfl, ?_⟩) ?_; rotate_left; (focus (intro w hSw; (try dsimp only at hSw); go_simp; (try (with_reducible rfl)); done)); try simp only [Act.put, List.setIfInBounds_toArray, List.set_cons_zero, List.set_cons_succ]
  refine wpL_calm (o := { dst := some 21, op := Go.Op.load 32 (Go.Operand.tmp 5), type := 32, pos := "rig.go:201", after := #[], guard := none }) (v := ?_) rfl (Or.inl ⟨by rfl, ?_⟩) ?_; rotate_left; (focus (intro w hSw; (try dsimp only at hSw); go_simp; (try (with_reducible rfl)); done)); try simp only [Act.put, List.setIfInBounds_toArray, List.set_cons_zero, List.set_cons_succ]
  refine wpL_loud0 (o := { dst := some 22, op := Go.Op.call { callee := Go.Callee.value (Go.Operand.func 41), args := #[Go.Operand.tmp 20, Go.Operand.tmp 21], argTypes := #[44, 32] }, type := 36, pos := "rig.go:201", after := #[{ on := 4, ground := Go.Ground.data }, { on := 5, ground := Go.Ground.data }], guard := none }) rfl (by kernel_rfl) (fun K hK => ?_)
  (go_simp; go_at_call 41; refine (C1.out _ HR2.out.drew.d1 (LY2.out.bel (Below.refl _ _).drew)).mono ?_; rintro e w3 ⟨rfl, hd, hk⟩)
  try go_wp2_with fail
  refine hK.out _ _ ?_
  clear hK K
  try simp only [Act.put, List.setIfInBounds_toArray, List.set_cons_zero, List.set_cons_succ]
  refine wpL_nil ?_
  refine NoPanic.normal ?_
  clear hHeld x0 x1 x2 q1
  have HR3 := Lib.hid (HR2.out.drew.dev1 hd hk)
  have HK3 := Lib.hid (HK2.out.drew.trans (HR2.out.drew.kq1 hk))
  clear hd hk HR2 HK2 HY2 LY2 C1
  obtain ⟨-, -, -, q3, -, q5, q6, q7, q8, q9, q10⟩ := HR3.out.cells
  have f3 := HR3.out.free 3
  have f9 := HR3.out.free 9
  have f10 := HR3.out.free 10
  have f5 := HR3.out.free 5
  have f6 := HR3.out.free 6
  have f7 := HR3.out.free 7
  have f8 := HR3.out.free 8
  have HR4 := Lib.hid (((((((HR3.out.set (T := { S with down := false }) 3 _ rfl).set (T := { S with down := false, st := 0 }) 5 _ rfl).set (T := { S with down := false, st := 0, d := 0 }) 6 _ rfl).set (T := { S with down := false, st := 0, d := 0, i := 0 }) 7 _ rfl).set (T := { S with down := false, st := 0, d := 0, i := 0, s := ⟨#[]⟩ }) 8 _ rfl).set (T := { S with down := false, st := 0, d := 0, i := 0, s := ⟨#[]⟩, arm := 0 }) 9 _ rfl).set (T := S.crash) 10 _ rfl)
  have HK4 := Lib.hid (((((((HK3.out.setCell 3 (.bool false) HR3.out.ok.bR p.mem).setCell 5 (.int .i64 0) HR3.out.ok.bR p.mem).setCell 6 (.int .i64 0) HR3.out.ok.bR p.mem).setCell 7 (.int .i64 0) HR3.out.ok.bR p.mem).setCell 8 (.string ⟨#[]⟩) HR3.out.ok.bR p.mem).setCell 9 (.int .i64 0) HR3.out.ok.bR p.mem).setCell 10 (.int .i64 0) HR3.out.ok.bR p.mem)
  go_upto_region 5 with fail
  go_wp2_with fail
  go_ret
  exact ⟨rfl, HR4.out, HK4.out⟩
/-! A nil rig. -/
theorem rigRefused_nil (d : Int) (w : World) : Calls Try.prog 45 #[.pointer none, .int .i64 d] w fun e w' => e = .returned (.int .i64 1) ∧ w = w' := by
  go_enter Try.func45, Try.ntmps45
  go_wp2_with fail
  go_ret
  exact ⟨rfl, rfl⟩
theorem rigBlock_nil (d i : Int) (w : World) : Calls Try.prog 42 #[.pointer none, .int .i64 d, .int .i64 i] w fun e w' => e = .returned (.int .i64 1) ∧ w = w' := by
  go_enter Try.func42, Try.ntmps42
  go_wp2_with fail
  refine (rigRefused_nil d _).mono ?_
  rintro e w' ⟨rfl, rfl⟩
  go_wp2_with fail
  go_ret
  exact ⟨rfl, rfl⟩
theorem rigText_nil (d i : Int) (s : ByteArray) (w : World) : Calls Try.prog 46 #[.pointer none, .int .i64 d, .int .i64 i, .string s] w fun e w' => e = .returned (.int .i64 1) ∧ w = w' := by
  go_enter Try.func46, Try.ntmps46
  go_wp2_with fail
  refine (rigBlock_nil d i _).mono ?_
  rintro e w' ⟨rfl, rfl⟩
  go_wp2_with fail
  go_ret
  exact ⟨rfl, rfl⟩
theorem rigStep_nil (n : Int) (w : World) : Calls Try.prog 51 #[.pointer none, .int .i64 n] w fun e w' => e = .returned (.int .i64 1) ∧ w = w' := by
  go_enter Try.func51, Try.ntmps51
  go_wp2_with fail
  go_ret
  exact ⟨rfl, rfl⟩
theorem rigRead_nil (d i : Int) (w : World) : Calls Try.prog 15 #[.pointer none, .int .i64 d, .int .i64 i] w fun e w' => e = .returned (.tuple #[.string ⟨#[]⟩, .int .i64 1]) ∧ Below w.heap.size w w' := by
  go_enter Try.func15, Try.ntmps15
  go_wp2_with fail
  refine (rigBlock_nil d i _).mono ?_
  rintro e w' ⟨rfl, rfl⟩
  go_wp2_with fail
  go_ret2
  exact ⟨rfl, (Below.refl _ _).alloc (Nat.le_refl _) _⟩
theorem rigWrite_nil (d i : Int) (s : ByteArray) (w : World) : Calls Try.prog 17 #[.pointer none, .int .i64 d, .int .i64 i, .string s] w fun e w' => e = .returned (.int .i64 1) ∧ Below w.heap.size w w' := by
  go_enter Try.func17, Try.ntmps17
  go_wp2_with fail
  refine (rigText_nil d i s _).mono ?_
  rintro e w' ⟨rfl, rfl⟩
  go_wp2_with fail
  go_ret
  exact ⟨rfl, ((Below.refl _ _).alloc (Nat.le_refl _) _).alloc (by simp) _⟩
theorem rigFlush_nil (d : Int) (w : World) : Calls Try.prog 18 #[.pointer none, .int .i64 d] w fun e w' => e = .returned (.int .i64 1) ∧ w = w' := by
  go_enter Try.func18, Try.ntmps18
  go_wp2_with fail
  refine (rigRefused_nil d _).mono ?_
  rintro e w' ⟨rfl, rfl⟩
  go_wp2_with fail
  go_ret
  exact ⟨rfl, rfl⟩
theorem rigReg_nil (w : World) : Calls Try.prog 13 #[.pointer none] w fun e w' => e = .returned (.tuple #[.string ⟨#[]⟩, .int .i64 1]) ∧ Below w.heap.size w w' := by
  go_enter Try.func13, Try.ntmps13
  go_wp2_with fail
  go_ret2
  exact ⟨rfl, (Below.refl _ _).alloc (Nat.le_refl _) _⟩
theorem rigSet_nil (s : ByteArray) (w : World) : Calls Try.prog 11 #[.pointer none, .string s] w fun e w' => e = .returned (.int .i64 1) ∧ Below w.heap.size w w' := by
  go_enter Try.func11, Try.ntmps11
  go_wp2_with fail
  go_ret
  exact ⟨rfl, ((Below.refl _ _).alloc (Nat.le_refl _) _).alloc (by simp) _⟩
theorem rigTamper_nil (d i : Int) (s : ByteArray) (w : World) : Calls Try.prog 19 #[.pointer none, .int .i64 d, .int .i64 i, .string s] w fun e w' => e = .returned (.int .i64 1) ∧ w = w' := by
  go_enter Try.func19, Try.ntmps19
  go_wp2_with fail
  refine (rigText_nil d i s _).mono ?_
  rintro e w' ⟨rfl, rfl⟩
  go_wp2_with fail
  go_ret
  exact ⟨rfl, rfl⟩
theorem rigLater_nil (n d i : Int) (s : ByteArray) (w : World) : Calls Try.prog 20 #[.pointer none, .int .i64 n, .int .i64 d, .int .i64 i, .string s] w fun e w' => e = .returned (.int .i64 1) ∧ w = w' := by
  go_enter Try.func20, Try.ntmps20
  go_wp2_with fail
  refine (rigStep_nil n _).mono ?_
  rintro e w' ⟨rfl, rfl⟩
  go_wp2_with fail
  go_ret
  exact ⟨rfl, rfl⟩
theorem rigArm_nil (n : Int) (w : World) : Calls Try.prog 21 #[.pointer none, .int .i64 n] w fun e w' => e = .returned (.int .i64 1) ∧ w = w' := by
  go_enter Try.func21, Try.ntmps21
  go_wp2_with fail
  refine (rigStep_nil n _).mono ?_
  rintro e w' ⟨rfl, rfl⟩
  go_wp2_with fail
  go_ret
  exact ⟨rfl, rfl⟩
theorem rigFault_nil (n : Int) (w : World) : Calls Try.prog 22 #[.pointer none, .int .i64 n] w fun e w' => e = .returned (.int .i64 1) ∧ w = w' := by
  go_enter Try.func22, Try.ntmps22
  go_wp2_with fail
  refine (rigStep_nil n _).mono ?_
  rintro e w' ⟨rfl, rfl⟩
  go_wp2_with fail
  go_ret
  exact ⟨rfl, rfl⟩
theorem rigCrash_nil (x y z a b c : Value) (w : World) : Calls Try.prog 14 #[.pointer none, .agg #[x, y, z], .agg #[a, b, c]] w fun e w' => e = .returned (.int .i64 1) ∧ Below w.heap.size w w' := by
  go_enter Try.func14, Try.ntmps14
  go_wp2_with fail
  go_ret
  exact ⟨rfl, ((Below.refl _ _).alloc (Nat.le_refl _) _).alloc (by simp) _⟩
theorem rigDown_nil (w : World) : Calls Try.prog 23 #[.pointer none] w fun e w' => e = .returned (.bool false) ∧ w = w' := by
  go_enter Try.func23, Try.ntmps23
  go_wp2_with fail
  go_ret
  exact ⟨rfl, rfl⟩
theorem rigCalls_nil (w : World) : Calls Try.prog 24 #[.pointer none] w fun e w' => e = .returned (.int .i64 0) ∧ w = w' := by
  go_enter Try.func24, Try.ntmps24
  go_wp2_with fail
  go_ret
  exact ⟨rfl, rfl⟩
theorem rigDev_nil (d : Int) (w : World) : Calls Try.prog 16 #[.pointer none, .int .i64 d] w fun e w' => e = .returned (.pointer none) ∧ w = w' := by
  go_enter Try.func16, Try.ntmps16
  go_wp2_with fail
  refine (rigRefused_nil d _).mono ?_
  rintro e w' ⟨rfl, rfl⟩
  go_wp2_with fail
  go_ret
  exact ⟨rfl, rfl⟩
theorem rigCopy_nil (w : World) : Calls Try.prog 25 #[.pointer none] w fun e w' => e = .returned (.pointer none) ∧ w = w' := by
  go_enter Try.func25, Try.ntmps25
  go_wp2_with fail
  go_ret
  exact ⟨rfl, rfl⟩
end Go.Proofs.Ytjmginkkjkbpoaa
