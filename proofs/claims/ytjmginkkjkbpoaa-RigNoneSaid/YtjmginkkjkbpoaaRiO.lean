/- Laws of package rig (cellaret): RigNone. -/
import Derived.Test.YtjmginkkjkbpoaaRiN
namespace Go.Proofs.Ytjmginkkjkbpoaa
open Go.RowKit Go.Deep Go.ChangeShapes Go.WideShapes
set_option linter.unusedVariables false
set_option linter.unusedSimpArgs false
set_option maxRecDepth 100000 in
set_option maxHeartbeats 4000000 in
theorem rigNone_zero (k i n : Int) (s : ByteArray) (raw : Bool) (x0 x1 x2 y0 y1 y2 : Value) (w : World) (hs : s.size < 300)  : Calls Try.prog 4 #[.agg #[.int .i64 k, .int .i64 0, .int .i64 i, .int .i64 n, .string s, .bool raw, x0, x1, x2, y0, y1, y2]] w fun e w' => e = .returned (.bool true) ∧ Below w.heap.size w w' := by
  have hE : (ByteArray.size ⟨#[]⟩) = 0 := rfl
  have hcat : (⟨#[]⟩ : ByteArray) ++ ⟨#[]⟩ = ⟨#[]⟩ := rfl
  have FE := Lib.hid (fun w => few_any12 k 0 i n s raw x0 x1 x2 y0 y1 y2 w)
  rw [show decide ((s.size : Int) < 300) = true from by simp; omega] at FE
  have CV := Lib.hid (fun B p w hR => rigDev_any B p rgS0 zeroB zeroB 0 w hR)
  obtain ⟨w1, HW1, HB1, hz1⟩ := box_act12 k 0 i n s raw x0 x1 x2 y0 y1 y2 w
  simp only [dvV, if_true] at CV
  clear hs
  go_enter Try.func4, Try.ntmps4
  go_upto_region 1 with fail
  rw [HW1.out]
  obtain ⟨⟨c0, c1, c2, c3, c4, c5, c6, c7, c8, c9, c10, c11⟩, hB1, hlt, hle⟩ := hz1.out
  have hz := hz1
  clear HW1 hz1 hB1
  go_wp2_with fail
  refine (FE.out _).mono ?_
  rintro e w2 ⟨rfl, b2⟩
  have Z2 := Lib.hid (hz.out.on b2)
  clear hz b2 c0 c1 c2 c3 c4 c5 c6 c7 c8 c9 c10 c11 hlt hle FE
  obtain ⟨-, d1, d2, -⟩ := Z2.out.1
  go_wp2_with fail
  refine (rigRead_nil _ _ _).mono ?_
  rintro e w3 ⟨rfl, b3⟩
  have Z3 := Lib.hid (Z2.out.on b3)
  clear b3 Z2 d1 d2
  go_wp2_with fail
  refine (rigReg_nil _).mono ?_
  rintro e w4 ⟨rfl, b3⟩
  have Z4 := Lib.hid (Z3.out.on b3)
  clear b3 Z3
  go_upto_region 6 with fail
  refine wp_region_lin_all (S := (fun w' => (w'.cell? ⟨w.heap.size, 0, none⟩ = some (.int .i64 k) ∧ w'.cell? ⟨w.heap.size, 1, none⟩ = some (.int .i64 0) ∧ w'.cell? ⟨w.heap.size, 2, none⟩ = some (.int .i64 i) ∧ w'.cell? ⟨w.heap.size, 3, none⟩ = some (.int .i64 n) ∧ w'.cell? ⟨w.heap.size, 4, none⟩ = some (.string s) ∧ w'.cell? ⟨w.heap.size, 5, none⟩ = some (.bool raw) ∧ w'.cell? ⟨w.heap.size, 6, none⟩ = some x0 ∧ w'.cell? ⟨w.heap.size, 7, none⟩ = some x1 ∧ w'.cell? ⟨w.heap.size, 8, none⟩ = some x2 ∧ w'.cell? ⟨w.heap.size, 9, none⟩ = some y0 ∧ w'.cell? ⟨w.heap.size, 10, none⟩ = some y1 ∧ w'.cell? ⟨w.heap.size, 11, none⟩ = some y2) ∧ AcS w.heap.size (w.heap.size + 1) w1 k 0 i n s raw x0 x1 x2 y0 y1 y2 w')) [(1, true), (2, true), (0, false), (3, false), (4, true), (5, true)] (by kernel_rfl) (by kernel_rfl) rfl (by kernel_rfl) ?_ (fun hHeld => ?_)
  · (try dsimp only); exact ⟨Z4.out.1, Z4.out.drew⟩
  refine wpL_calm (o := { dst := some 28, op := Go.Op.fieldAddr 34 (Go.Operand.tmp 1) 1, type := 0, pos := "law.go:252", after := #[], guard := none }) (v := ?_) rfl (Or.inl ⟨by rfl, ?_⟩) ?_; rotate_left; (focus (intro w hSw; (try dsimp only at hSw); go_simp; (try (with_reducible rfl)); done)); try simp only [Act.put, List.setIfInBounds_toArray, List.set_cons_zero, List.set_cons_succ]
  refine wpL_calm (o := { dst := some 29, op := Go.Op.load 3 (Go.Operand.tmp 28), type := 3, pos := "law.go:252", after := #[{ on := 1, ground := Go.Ground.data }], guard := none }) (v := ?_) rfl (Or.inl ⟨by rfl, ?_⟩) ?_; rotate_left; (focus (intro w hSw; (try dsimp only at hSw); go_simp; (try (with_reducible rfl)); done)); try simp only [Act.put, List.setIfInBounds_toArray, List.set_cons_zero, List.set_cons_succ]
  refine wpL_loud1 (o := { dst := some 27, op := Go.Op.call { callee := Go.Callee.value (Go.Operand.func 5), args := #[], argTypes := #[] }, type := 23, pos := "law.go:252", after := #[], guard := none }) rfl (fun K hK => ?_)
  (go_simp; go_at_call 5; refine (rigNew_any _).mono ?_; rintro e w5 ⟨p, rfl, hR, b4⟩)
  try go_wp2_with fail
  refine hK.out _ _ ?_ (fun hHeld => ?_)
  · (try dsimp only); exact ⟨(Z4.out.drew.on b4).1, Z4.out.drew.on b4⟩
  clear hK K
  try simp only [Act.put, List.setIfInBounds_toArray, List.set_cons_zero, List.set_cons_succ]
  have HR5 := Lib.hid hR; clear hR
  refine wpL_loud1 (o := { dst := some 30, op := Go.Op.call { callee := Go.Callee.value (Go.Operand.func 16), args := #[Go.Operand.tmp 27, Go.Operand.tmp 29], argTypes := #[23, 3] }, type := 44, pos := "law.go:252", after := #[{ on := 0, ground := Go.Ground.data }, { on := 2, ground := Go.Ground.data }, { on := 0, ground := Go.Ground.chain }], guard := none }) rfl (fun K hK => ?_)
  (go_simp; go_at_call 16; refine (CV.out _ p _ HR5.out).mono ?_; rintro e w' ⟨rfl, rfl⟩)
  try go_wp2_with fail
  refine hK.out _ _ ?_ (fun hHeld => ?_)
  · (try dsimp only); exact hHeld
  clear hK K
  try simp only [Act.put, List.setIfInBounds_toArray, List.set_cons_zero, List.set_cons_succ]
  refine wpL_calm (o := { dst := some 31, op := Go.Op.binOp Go.BinOp.neq 44 (Go.Operand.tmp 30) (Go.Operand.const (Go.Value.pointer none)) 44, type := 4, pos := "law.go:252", after := #[{ on := 3, ground := Go.Ground.data }], guard := none }) (v := ?_) rfl (Or.inl ⟨by rfl, ?_⟩) ?_; rotate_left; (focus (intro w hSw; (try dsimp only at hSw); go_simp; (try (with_reducible rfl)); done)); try simp only [Act.put, List.setIfInBounds_toArray, List.set_cons_zero, List.set_cons_succ]
  refine wpL_calm (o := { dst := some 8, op := Go.Op.assign (Go.Operand.tmp 31), type := 4, pos := "law.go:252", after := #[{ on := 4, ground := Go.Ground.data }, { on := 3, ground := Go.Ground.chain }, { on := 0, ground := Go.Ground.phase }, { on := 1, ground := Go.Ground.phase }, { on := 2, ground := Go.Ground.phase }, { on := 3, ground := Go.Ground.phase }, { on := 4, ground := Go.Ground.phase }], guard := none }) (v := ?_) rfl (Or.inl ⟨by rfl, ?_⟩) ?_; rotate_left; (focus (intro w hSw; (try dsimp only at hSw); go_simp; (try (with_reducible rfl)); done)); try simp only [Act.put, List.setIfInBounds_toArray, List.set_cons_zero, List.set_cons_succ]
  refine wpL_nil ?_
  refine NoPanic.normal ?_
  have Z := Lib.hid hHeld.2
  clear hHeld HR5 CV b4 Z4
  go_wp2_with fail
  refine (awake12 _).mono ?_
  rintro e w6 ⟨rfl, b6⟩
  have Z' := Lib.hid (Z.out.on b6)
  (try clear c0 c1 c2 c3 c4 c5 c6 c7 c8 c9 c10 c11)
  clear b6 Z
  have Z := Z'
  clear Z'
  obtain ⟨c0, c1, c2, c3, c4, c5, c6, c7, c8, c9, c10, c11⟩ := Z.out.1
  go_wp2_with fail
  refine (rigWrite_nil _ _ _ _).mono ?_
  rintro e w6 ⟨rfl, b6⟩
  have Z' := Lib.hid (Z.out.on b6)
  (try clear c0 c1 c2 c3 c4 c5 c6 c7 c8 c9 c10 c11)
  clear b6 Z
  have Z := Z'
  clear Z'
  obtain ⟨c0, c1, c2, c3, c4, c5, c6, c7, c8, c9, c10, c11⟩ := Z.out.1
  go_wp2_with fail
  refine (rigFlush_nil _ _).mono ?_
  rintro e w6 ⟨rfl, rfl⟩
  go_wp2_with fail
  refine (rigSet_nil _ _).mono ?_
  rintro e w6 ⟨rfl, b6⟩
  have Z' := Lib.hid (Z.out.on b6)
  (try clear c0 c1 c2 c3 c4 c5 c6 c7 c8 c9 c10 c11)
  clear b6 Z
  have Z := Z'
  clear Z'
  obtain ⟨c0, c1, c2, c3, c4, c5, c6, c7, c8, c9, c10, c11⟩ := Z.out.1
  go_wp2_with fail
  refine (rigTamper_nil _ _ _ _).mono ?_
  rintro e w6 ⟨rfl, rfl⟩
  go_wp2_with fail
  refine (rigLater_nil _ _ _ _ _).mono ?_
  rintro e w6 ⟨rfl, rfl⟩
  go_wp2_with fail
  refine (rigArm_nil _ _).mono ?_
  rintro e w6 ⟨rfl, rfl⟩
  go_wp2_with fail
  refine (rigFault_nil _ _).mono ?_
  rintro e w6 ⟨rfl, rfl⟩
  go_wp2_with fail
  refine (rigCrash_nil _ _ _ _ _ _ _).mono ?_
  rintro e w6 ⟨rfl, b6⟩
  have Z' := Lib.hid (Z.out.on b6)
  (try clear c0 c1 c2 c3 c4 c5 c6 c7 c8 c9 c10 c11)
  clear b6 Z
  have Z := Z'
  clear Z'
  obtain ⟨c0, c1, c2, c3, c4, c5, c6, c7, c8, c9, c10, c11⟩ := Z.out.1
  go_wp2_with fail
  refine (rigDown_nil _).mono ?_
  rintro e w6 ⟨rfl, rfl⟩
  go_wp2_with fail
  refine (rigCalls_nil _).mono ?_
  rintro e w6 ⟨rfl, rfl⟩
  go_wp2_with fail
  refine (rigDev_nil _ _).mono ?_
  rintro e w6 ⟨rfl, rfl⟩
  go_wp2_with fail
  refine (rigCopy_nil _).mono ?_
  rintro e w6 ⟨rfl, rfl⟩
  go_wp2_with fail
  go_ret
  exact ⟨by first | rfl | decide | simp, HB1.out.trans (Z.out.2.1.mono (Nat.le_succ _))⟩
end Go.Proofs.Ytjmginkkjkbpoaa
