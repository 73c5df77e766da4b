/- Package rig (cellaret): a step. -/
import Derived.Test.YtjmginkkjkbpoaaRiE
namespace Go.Proofs.Ytjmginkkjkbpoaa
open Go.RowKit Go.Deep
set_option linter.unusedVariables false
set_option linter.unusedSimpArgs false
/-- The number of the next step. -/
def RgS.next (S : RgS) : Int := IntKind.i64.wrap (S.calls + 1)
def RgS.on (S : RgS) : RgS := { S with calls := S.next }
def RgS.gone (S : RgS) : RgS := { S with calls := S.next, down := true }
/-- What somebody changes at the next step: of the first device, of the second one. -/
def RgS.hit0 (S : RgS) (c : Nat → Bk) : Nat → Bk := if S.next = S.st ∧ S.d = 0 then tmpB 288 c S.i S.s else c
def RgS.hit1 (S : RgS) (c : Nat → Bk) : Nat → Bk := if S.next = S.st ∧ S.d = 1 then tmpB 288 c S.i S.s else c
/-- What a step does whose call does D behind it. -/
def StepP (B : Nat) (p : RgP) (S : RgS) (c0 c1 : Nat → Bk) (D : World → Int → World → Prop) (w : World) (e : Ending) (w' : World) : Prop :=
  ∃ k : Int, e = .returned (.int .i64 k) ∧
    ((S.down = true ∧ k = 11 ∧ w = w') ∨
     (S.down = false ∧ S.next = S.arm ∧ k = 11 ∧ RgAt B w' p S.gone (S.hit0 c0) (S.hit1 c1) ∧ Kq B p.l w w') ∨
     (S.down = false ∧ S.next ≠ S.arm ∧ S.next = S.faulty ∧ k = 10 ∧ RgAt B w' p S.on (S.hit0 c0) (S.hit1 c1) ∧ Kq B p.l w w') ∨
     (S.down = false ∧ S.next ≠ S.arm ∧ S.next ≠ S.faulty ∧ ∃ w2, RgAt B w2 p S.on (S.hit0 c0) (S.hit1 c1) ∧ Kq B p.l w w2 ∧ D w2 k w'))
set_option maxRecDepth 100000 in
set_option maxHeartbeats 2000000 in
theorem step_any (B : Nat) (p : RgP) (S : RgS) (c0 c1 : Nat → Bk) (D : World → Int → World → Prop) (fn : Nat) (bnd caps : Array Value) (w : World) (hR : RgAt B w p S c0 c1) (hd : S.d = 0 ∨ S.d = 1)
    (heg : ∀ (args : Array Value) (w : World), (callFunc fn args).run Try.prog w = .ok (.enter fn args) w)
    (hdo : Hid (∀ w2, RgAt B w2 p S.on (S.hit0 c0) (S.hit1 c1) → Kq B p.l w w2 → Calls Try.prog fn (bnd ++ caps) w2 fun e w' => ∃ k : Int, e = .returned (.int .i64 k) ∧ D w2 k w')) :
    Calls Try.prog 29 #[.pointer (some ⟨p.R, 0, none⟩), .func (.func fn) bnd caps] w (StepP B p S c0 c1 D w) := by
  have HR := Lib.hid hR
  obtain ⟨q0, q1, q2, q3, q4, q5, q6, q7, q8, q9, q10⟩ := hR.cells
  have f4 := hR.free 4
  clear hR q0 q1 q2 q5 q6 q7 q8 q9 q10
  have HPOST : Hid (∀ e w', StepP B p S c0 c1 D w e w' → StepP B p S c0 c1 D w e w') := Lib.hid (fun _ _ h => h)
  cases hdn : S.down with
  | true =>
    rw [hdn] at q3
    have HDN := Lib.hid hdn
    clear hdn hdo
    go_enter Try.func29, Try.ntmps29
    go_wp2_with fail
    go_ret
    exact ⟨11, rfl, Or.inl ⟨HDN.out, rfl, rfl⟩⟩
  | false =>
    rw [hdn] at q3
    have HDN := Lib.hid hdn
    clear hdn
    obtain ⟨c, hc⟩ : ∃ c, Hid (IntKind.i64.wrap (S.calls + 1) = c) := ⟨_, Lib.hid rfl⟩
    have HC : Hid (S.next = c) := Lib.hid hc.out
    have hc' := hc.out
    obtain ⟨w1, HW, HR1, HK1⟩ : ∃ w1, Hid (w.setCell ⟨p.R, 4, none⟩ (.int .i64 c) = w1) ∧ Hid (RgAt B w1 p S.on c0 c1) ∧ Hid (Kq B p.l w w1) :=
      ⟨_, Lib.hid rfl, Lib.hid (HR.out.set 4 (.int .i64 c) (by unfold RgS.on rgL; rw [HC.out]; rfl)), Lib.hid (HR.out.kset (Kq.refl _ _ _) 4 _)⟩
    have KC := HR1.out.cells
    unfold RgS.on at KC
    dsimp only at KC
    rw [HC.out] at KC
    obtain ⟨k0, k1, -, -, k4, k5, k6, k7, k8, k9, k10⟩ := KC
    by_cases hh : c = S.st
    · have ht : (c == S.st) = true := by rw [beq_iff_eq]; exact hh
      rcases hd with hd | hd
      · as_aux_lemma =>
        have HH : Hid (S.hit0 c0 = tmpB 288 c0 S.i S.s ∧ S.hit1 c1 = c1) := Lib.hid (by unfold RgS.hit0 RgS.hit1; rw [HC.out, hh, hd]; exact ⟨by first | rw [if_pos ⟨rfl, rfl⟩] | rw [if_neg (by rintro ⟨_, h⟩; exact absurd h (by decide))], by first | rw [if_pos ⟨rfl, rfl⟩] | rw [if_neg (by rintro ⟨_, h⟩; exact absurd h (by decide))]⟩)
        rw [hd] at k6
        have CT := Lib.hid (fun w hD => tamper_any p.g0 p.r0 288 c0 S.i S.s w hD)
        clear hd hh
        go_enter Try.func29, Try.ntmps29
        go_upto_region 4 with fail
        rw [HW.out]
        clear HW q3 q4 f4 hc'
        refine wp_region_lin_all (S := (fun w' => w'.cell? ⟨p.R, 4, none⟩ = some (.int .i64 c) ∧ w'.cell? ⟨p.R, 5, none⟩ = some (.int .i64 S.st))) [(0, true), (1, true), (2, true), (3, true), (4, true), (5, true), (6, true), (7, true), (8, true), (9, true)] (by kernel_rfl) (by kernel_rfl) rfl (by kernel_rfl) ?_ (fun hHeld => ?_)
        · (try dsimp only); exact ⟨k4, k5⟩
        refine wpL_calm (o := { dst := some 16, op := Go.Op.move (Go.Operand.tmp 0), type := 23, pos := "rig.go:76", after := #[], guard := none }) (v := ?_) rfl (Or.inl ⟨by rfl, ?_⟩) ?_; rotate_left; (focus (intro w hSw; (try dsimp only at hSw); go_simp; (try (with_reducible rfl)); done)); try simp only [Act.put, List.setIfInBounds_toArray, List.set_cons_zero, List.set_cons_succ]
        refine wpL_calm (o := { dst := some 17, op := Go.Op.nilCheck (Go.Operand.tmp 16), type := 0, pos := "rig.go:76", after := #[{ on := 0, ground := Go.Ground.data }], guard := none }) (v := ?_) rfl (Or.inl ⟨by rfl, ?_⟩) ?_; rotate_left; (focus (intro w hSw; (try dsimp only at hSw); go_simp; (try (with_reducible rfl)); done)); try simp only [Act.put, List.setIfInBounds_toArray, List.set_cons_zero, List.set_cons_succ]
        refine wpL_calm (o := { dst := some 18, op := Go.Op.fieldAddr 55 (Go.Operand.tmp 17) 3, type := 0, pos := "rig.go:76", after := #[{ on := 1, ground := Go.Ground.data }], guard := none }) (v := ?_) rfl (Or.inl ⟨by rfl, ?_⟩) ?_; rotate_left; (focus (intro w hSw; (try dsimp only at hSw); go_simp; (try (with_reducible rfl)); done)); try simp only [Act.put, List.setIfInBounds_toArray, List.set_cons_zero, List.set_cons_succ]
        refine wpL_calm (o := { dst := some 19, op := Go.Op.load 3 (Go.Operand.tmp 18), type := 3, pos := "rig.go:76", after := #[{ on := 2, ground := Go.Ground.data }], guard := none }) (v := ?_) rfl (Or.inl ⟨by rfl, ?_⟩) ?_; rotate_left; (focus (intro w hSw; (try dsimp only at hSw); go_simp; (try (with_reducible rfl)); done)); try simp only [Act.put, List.setIfInBounds_toArray, List.set_cons_zero, List.set_cons_succ]
        refine wpL_calm (o := { dst := some 20, op := Go.Op.move (Go.Operand.tmp 0), type := 23, pos := "rig.go:76", after := #[], guard := none }) (v := ?_) rfl (Or.inl ⟨by rfl, ?_⟩) ?_; rotate_left; (focus (intro w hSw; (try dsimp only at hSw); go_simp; (try (with_reducible rfl)); done)); try simp only [Act.put, List.setIfInBounds_toArray, List.set_cons_zero, List.set_cons_succ]
        refine wpL_calm (o := { dst := some 21, op := Go.Op.nilCheck (Go.Operand.tmp 20), type := 0, pos := "rig.go:76", after := #[{ on := 4, ground := Go.Ground.data }], guard := none }) (v := ?_) rfl (Or.inl ⟨by rfl, ?_⟩) ?_; rotate_left; (focus (intro w hSw; (try dsimp only at hSw); go_simp; (try (with_reducible rfl)); done)); try simp only [Act.put, List.setIfInBounds_toArray, List.set_cons_zero, List.set_cons_succ]
        refine wpL_calm (o := { dst := some 22, op := Go.Op.fieldAddr 55 (Go.Operand.tmp 21) 4, type := 0, pos := "rig.go:76", after := #[{ on := 5, ground := Go.Ground.data }], guard := none }) (v := ?_) rfl (Or.inl ⟨by rfl, ?_⟩) ?_; rotate_left; (focus (intro w hSw; (try dsimp only at hSw); go_simp; (try (with_reducible rfl)); done)); try simp only [Act.put, List.setIfInBounds_toArray, List.set_cons_zero, List.set_cons_succ]
        refine wpL_calm (o := { dst := some 23, op := Go.Op.fieldAddr 53 (Go.Operand.tmp 22) 0, type := 0, pos := "rig.go:76", after := #[{ on := 6, ground := Go.Ground.data }], guard := none }) (v := ?_) rfl (Or.inl ⟨by rfl, ?_⟩) ?_; rotate_left; (focus (intro w hSw; (try dsimp only at hSw); go_simp; (try (with_reducible rfl)); done)); try simp only [Act.put, List.setIfInBounds_toArray, List.set_cons_zero, List.set_cons_succ]
        refine wpL_calm (o := { dst := some 24, op := Go.Op.load 3 (Go.Operand.tmp 23), type := 3, pos := "rig.go:76", after := #[{ on := 7, ground := Go.Ground.data }], guard := none }) (v := ?_) rfl (Or.inl ⟨by rfl, ?_⟩) ?_; rotate_left; (focus (intro w hSw; (try dsimp only at hSw); go_simp; (try (with_reducible rfl)); done)); try simp only [Act.put, List.setIfInBounds_toArray, List.set_cons_zero, List.set_cons_succ]
        refine wpL_calm (o := { dst := some 25, op := Go.Op.binOp Go.BinOp.eql 3 (Go.Operand.tmp 19) (Go.Operand.tmp 24) 3, type := 4, pos := "rig.go:76", after := #[{ on := 3, ground := Go.Ground.data }, { on := 8, ground := Go.Ground.data }], guard := none }) (v := ?_) rfl (Or.inl ⟨by rfl, ?_⟩) ?_; rotate_left; (focus (intro w hSw; (try dsimp only at hSw); go_simp; (try (with_reducible rfl)); done)); try simp only [Act.put, List.setIfInBounds_toArray, List.set_cons_zero, List.set_cons_succ]
        refine wpL_nil ?_
        refine NoPanic.normal ?_
        clear hHeld
        go_upto_region 5 with fail
        have HR1' := Lib.hid HR1.out.drew
        have HK1' := Lib.hid HK1.out.drew
        refine wp_region_lin (S := (fun w' => w'.cell? ⟨p.R, 0, none⟩ = some (.pointer (some ⟨p.g0, 0, none⟩)) ∧ w'.cell? ⟨p.R, 6, none⟩ = some (.int .i64 0) ∧ w'.cell? ⟨p.R, 7, none⟩ = some (.int .i64 S.i) ∧ w'.cell? ⟨p.R, 8, none⟩ = some (.string S.s))) [(0, true), (1, true), (2, true), (3, true), (4, true), (5, true), (6, true), (7, true), (8, true), (9, true), (10, true), (11, true), (12, true), (13, true), (14, true), (15, true), (16, true), (17, true), (18, true), (19, true), (20, false)] (by kernel_rfl) (by kernel_rfl) rfl (by kernel_rfl) ?_ (fun hHeld => ?_)
        · (try dsimp only); exact ⟨k0, k6, k7, k8⟩
        refine wpL_calm (o := { dst := some 26, op := Go.Op.move (Go.Operand.tmp 0), type := 23, pos := "rig.go:77", after := #[], guard := none }) (v := ?_) rfl (Or.inl ⟨by rfl, ?_⟩) ?_; rotate_left; (focus (intro w hSw; (try dsimp only at hSw); go_simp; (try (with_reducible rfl)); done)); try simp only [Act.put, List.setIfInBounds_toArray, List.set_cons_zero, List.set_cons_succ]
        refine wpL_calm (o := { dst := some 27, op := Go.Op.move (Go.Operand.tmp 0), type := 23, pos := "rig.go:77", after := #[], guard := none }) (v := ?_) rfl (Or.inl ⟨by rfl, ?_⟩) ?_; rotate_left; (focus (intro w hSw; (try dsimp only at hSw); go_simp; (try (with_reducible rfl)); done)); try simp only [Act.put, List.setIfInBounds_toArray, List.set_cons_zero, List.set_cons_succ]
        refine wpL_calm (o := { dst := some 28, op := Go.Op.nilCheck (Go.Operand.tmp 27), type := 0, pos := "rig.go:77", after := #[{ on := 1, ground := Go.Ground.data }], guard := none }) (v := ?_) rfl (Or.inl ⟨by rfl, ?_⟩) ?_; rotate_left; (focus (intro w hSw; (try dsimp only at hSw); go_simp; (try (with_reducible rfl)); done)); try simp only [Act.put, List.setIfInBounds_toArray, List.set_cons_zero, List.set_cons_succ]
        refine wpL_calm (o := { dst := some 29, op := Go.Op.fieldAddr 55 (Go.Operand.tmp 28) 4, type := 0, pos := "rig.go:77", after := #[{ on := 2, ground := Go.Ground.data }], guard := none }) (v := ?_) rfl (Or.inl ⟨by rfl, ?_⟩) ?_; rotate_left; (focus (intro w hSw; (try dsimp only at hSw); go_simp; (try (with_reducible rfl)); done)); try simp only [Act.put, List.setIfInBounds_toArray, List.set_cons_zero, List.set_cons_succ]
        refine wpL_calm (o := { dst := some 30, op := Go.Op.fieldAddr 53 (Go.Operand.tmp 29) 1, type := 0, pos := "rig.go:77", after := #[{ on := 3, ground := Go.Ground.data }], guard := none }) (v := ?_) rfl (Or.inl ⟨by rfl, ?_⟩) ?_; rotate_left; (focus (intro w hSw; (try dsimp only at hSw); go_simp; (try (with_reducible rfl)); done)); try simp only [Act.put, List.setIfInBounds_toArray, List.set_cons_zero, List.set_cons_succ]
        refine wpL_calm (o := { dst := some 31, op := Go.Op.load 3 (Go.Operand.tmp 30), type := 3, pos := "rig.go:77", after := #[{ on := 4, ground := Go.Ground.data }], guard := none }) (v := ?_) rfl (Or.inl ⟨by rfl, ?_⟩) ?_; rotate_left; (focus (intro w hSw; (try dsimp only at hSw); go_simp; (try (with_reducible rfl)); done)); try simp only [Act.put, List.setIfInBounds_toArray, List.set_cons_zero, List.set_cons_succ]
        refine wpL_calm (o := { dst := some 32, op := Go.Op.nilCheck (Go.Operand.tmp 26), type := 0, pos := "rig.go:77", after := #[{ on := 0, ground := Go.Ground.data }], guard := none }) (v := ?_) rfl (Or.inl ⟨by rfl, ?_⟩) ?_; rotate_left; (focus (intro w hSw; (try dsimp only at hSw); go_simp; (try (with_reducible rfl)); done)); try simp only [Act.put, List.setIfInBounds_toArray, List.set_cons_zero, List.set_cons_succ]
        refine wpL_calm (o := { dst := some 33, op := Go.Op.fieldAddr 55 (Go.Operand.tmp 32) 0, type := 0, pos := "rig.go:77", after := #[{ on := 6, ground := Go.Ground.data }], guard := none }) (v := ?_) rfl (Or.inl ⟨by rfl, ?_⟩) ?_; rotate_left; (focus (intro w hSw; (try dsimp only at hSw); go_simp; (try (with_reducible rfl)); done)); try simp only [Act.put, List.setIfInBounds_toArray, List.set_cons_zero, List.set_cons_succ]
        refine wpL_calm (o := { dst := some 34, op := Go.Op.indexAddr 51 (Go.Operand.tmp 33) (Go.Operand.tmp 31), type := 0, pos := "rig.go:77", after := #[{ on := 7, ground := Go.Ground.data }, { on := 5, ground := Go.Ground.data }], guard := none }) (v := ?_) rfl (Or.inl ⟨by rfl, ?_⟩) ?_; rotate_left; (focus (intro w hSw; (try dsimp only at hSw); go_simp; (try (with_reducible rfl)); done)); try simp only [Act.put, List.setIfInBounds_toArray, List.set_cons_zero, List.set_cons_succ]
        refine wpL_calm (o := { dst := some 35, op := Go.Op.load 44 (Go.Operand.tmp 34), type := 44, pos := "rig.go:77", after := #[{ on := 8, ground := Go.Ground.data }], guard := none }) (v := ?_) rfl (Or.inl ⟨by rfl, ?_⟩) ?_; rotate_left; (focus (intro w hSw; (try dsimp only at hSw); go_simp; (try (with_reducible rfl)); done)); try simp only [Act.put, List.setIfInBounds_toArray, List.set_cons_zero, List.set_cons_succ]
        refine wpL_calm (o := { dst := some 36, op := Go.Op.move (Go.Operand.tmp 0), type := 23, pos := "rig.go:77", after := #[], guard := none }) (v := ?_) rfl (Or.inl ⟨by rfl, ?_⟩) ?_; rotate_left; (focus (intro w hSw; (try dsimp only at hSw); go_simp; (try (with_reducible rfl)); done)); try simp only [Act.put, List.setIfInBounds_toArray, List.set_cons_zero, List.set_cons_succ]
        refine wpL_calm (o := { dst := some 37, op := Go.Op.nilCheck (Go.Operand.tmp 36), type := 0, pos := "rig.go:77", after := #[{ on := 10, ground := Go.Ground.data }], guard := none }) (v := ?_) rfl (Or.inl ⟨by rfl, ?_⟩) ?_; rotate_left; (focus (intro w hSw; (try dsimp only at hSw); go_simp; (try (with_reducible rfl)); done)); try simp only [Act.put, List.setIfInBounds_toArray, List.set_cons_zero, List.set_cons_succ]
        refine wpL_calm (o := { dst := some 38, op := Go.Op.fieldAddr 55 (Go.Operand.tmp 37) 4, type := 0, pos := "rig.go:77", after := #[{ on := 11, ground := Go.Ground.data }], guard := none }) (v := ?_) rfl (Or.inl ⟨by rfl, ?_⟩) ?_; rotate_left; (focus (intro w hSw; (try dsimp only at hSw); go_simp; (try (with_reducible rfl)); done)); try simp only [Act.put, List.setIfInBounds_toArray, List.set_cons_zero, List.set_cons_succ]
        refine wpL_calm (o := { dst := some 39, op := Go.Op.fieldAddr 53 (Go.Operand.tmp 38) 2, type := 0, pos := "rig.go:77", after := #[{ on := 12, ground := Go.Ground.data }], guard := none }) (v := ?_) rfl (Or.inl ⟨by rfl, ?_⟩) ?_; rotate_left; (focus (intro w hSw; (try dsimp only at hSw); go_simp; (try (with_reducible rfl)); done)); try simp only [Act.put, List.setIfInBounds_toArray, List.set_cons_zero, List.set_cons_succ]
        refine wpL_calm (o := { dst := some 40, op := Go.Op.load 3 (Go.Operand.tmp 39), type := 3, pos := "rig.go:77", after := #[{ on := 13, ground := Go.Ground.data }], guard := none }) (v := ?_) rfl (Or.inl ⟨by rfl, ?_⟩) ?_; rotate_left; (focus (intro w hSw; (try dsimp only at hSw); go_simp; (try (with_reducible rfl)); done)); try simp only [Act.put, List.setIfInBounds_toArray, List.set_cons_zero, List.set_cons_succ]
        refine wpL_calm (o := { dst := some 41, op := Go.Op.move (Go.Operand.tmp 0), type := 23, pos := "rig.go:77", after := #[], guard := none }) (v := ?_) rfl (Or.inl ⟨by rfl, ?_⟩) ?_; rotate_left; (focus (intro w hSw; (try dsimp only at hSw); go_simp; (try (with_reducible rfl)); done)); try simp only [Act.put, List.setIfInBounds_toArray, List.set_cons_zero, List.set_cons_succ]
        refine wpL_calm (o := { dst := some 42, op := Go.Op.nilCheck (Go.Operand.tmp 41), type := 0, pos := "rig.go:77", after := #[{ on := 15, ground := Go.Ground.data }], guard := none }) (v := ?_) rfl (Or.inl ⟨by rfl, ?_⟩) ?_; rotate_left; (focus (intro w hSw; (try dsimp only at hSw); go_simp; (try (with_reducible rfl)); done)); try simp only [Act.put, List.setIfInBounds_toArray, List.set_cons_zero, List.set_cons_succ]
        refine wpL_calm (o := { dst := some 43, op := Go.Op.fieldAddr 55 (Go.Operand.tmp 42) 4, type := 0, pos := "rig.go:77", after := #[{ on := 16, ground := Go.Ground.data }], guard := none }) (v := ?_) rfl (Or.inl ⟨by rfl, ?_⟩) ?_; rotate_left; (focus (intro w hSw; (try dsimp only at hSw); go_simp; (try (with_reducible rfl)); done)); try simp only [Act.put, List.setIfInBounds_toArray, List.set_cons_zero, List.set_cons_succ]
        refine wpL_calm (o := { dst := some 44, op := Go.Op.fieldAddr 53 (Go.Operand.tmp 43) 3, type := 0, pos := "rig.go:77", after := #[{ on := 17, ground := Go.Ground.data }], guard := none }) (v := ?_) rfl (Or.inl ⟨by rfl, ?_⟩) ?_; rotate_left; (focus (intro w hSw; (try dsimp only at hSw); go_simp; (try (with_reducible rfl)); done)); try simp only [Act.put, List.setIfInBounds_toArray, List.set_cons_zero, List.set_cons_succ]
        refine wpL_calm (o := { dst := some 45, op := Go.Op.load 9 (Go.Operand.tmp 44), type := 9, pos := "rig.go:77", after := #[{ on := 18, ground := Go.Ground.data }], guard := none }) (v := ?_) rfl (Or.inl ⟨by rfl, ?_⟩) ?_; rotate_left; (focus (intro w hSw; (try dsimp only at hSw); go_simp; (try (with_reducible rfl)); done)); try simp only [Act.put, List.setIfInBounds_toArray, List.set_cons_zero, List.set_cons_succ]
        refine wpL_loud0 (o := { dst := some 46, op := Go.Op.call { callee := Go.Callee.value (Go.Operand.func 50), args := #[Go.Operand.tmp 35, Go.Operand.tmp 40, Go.Operand.tmp 45], argTypes := #[44, 3, 9] }, type := 36, pos := "rig.go:77", after := #[{ on := 9, ground := Go.Ground.data }, { on := 14, ground := Go.Ground.data }, { on := 19, ground := Go.Ground.data }], guard := none }) rfl (by kernel_rfl) (fun K hK => ?_)
        (go_simp; go_at_call 50; refine (CT.out _ HR1'.out.drew.d0).mono ?_; rintro e w2 ⟨rfl, hd2, hk2⟩)
        try go_wp2_with fail
        refine hK.out _ _ ?_
        clear hK K
        try simp only [Act.put, List.setIfInBounds_toArray, List.set_cons_zero, List.set_cons_succ]
        refine wpL_nil ?_
        refine NoPanic.normal ?_
        clear hHeld
        have HR2 : Hid (RgAt B w2 p S.on (S.hit0 c0) (S.hit1 c1)) := Lib.hid (by rw [HH.out.1, HH.out.2]; exact HR1'.out.drew.dev0 hd2 hk2)
        have HK2 : Hid (Kq B p.l w w2) := Lib.hid (HK1'.out.drew.trans (HR1'.out.drew.kq0 hk2))
        clear hd2 hk2 HR1' HK1' HR1 HK1 CT HH k0 k1 k4 k5 k6 k7 k8 k9 k10
        go_upto_region 6 with fail
        have KC := HR2.out.cells
        unfold RgS.on at KC
        dsimp only at KC
        rw [HC.out] at KC
        obtain ⟨-, -, -, k3, k4, -, -, -, -, k9, k10⟩ := KC
        have f3 := HR2.out.free 3
        refine wp_region_lin_all (S := (fun w' => w'.cell? ⟨p.R, 4, none⟩ = some (.int .i64 c) ∧ w'.cell? ⟨p.R, 9, none⟩ = some (.int .i64 S.arm))) [(0, true), (1, true), (2, true), (3, true), (4, true), (5, true), (6, true), (7, true), (8, true)] (by kernel_rfl) (by kernel_rfl) rfl (by kernel_rfl) ?_ (fun hHeld => ?_)
        · (try dsimp only); exact ⟨k4, k9⟩
        refine wpL_calm (o := { dst := some 47, op := Go.Op.move (Go.Operand.tmp 0), type := 23, pos := "rig.go:79", after := #[], guard := none }) (v := ?_) rfl (Or.inl ⟨by rfl, ?_⟩) ?_; rotate_left; (focus (intro w hSw; (try dsimp only at hSw); go_simp; (try (with_reducible rfl)); done)); try simp only [Act.put, List.setIfInBounds_toArray, List.set_cons_zero, List.set_cons_succ]
        refine wpL_calm (o := { dst := some 48, op := Go.Op.nilCheck (Go.Operand.tmp 47), type := 0, pos := "rig.go:79", after := #[{ on := 0, ground := Go.Ground.data }], guard := none }) (v := ?_) rfl (Or.inl ⟨by rfl, ?_⟩) ?_; rotate_left; (focus (intro w hSw; (try dsimp only at hSw); go_simp; (try (with_reducible rfl)); done)); try simp only [Act.put, List.setIfInBounds_toArray, List.set_cons_zero, List.set_cons_succ]
        refine wpL_calm (o := { dst := some 49, op := Go.Op.fieldAddr 55 (Go.Operand.tmp 48) 3, type := 0, pos := "rig.go:79", after := #[{ on := 1, ground := Go.Ground.data }], guard := none }) (v := ?_) rfl (Or.inl ⟨by rfl, ?_⟩) ?_; rotate_left; (focus (intro w hSw; (try dsimp only at hSw); go_simp; (try (with_reducible rfl)); done)); try simp only [Act.put, List.setIfInBounds_toArray, List.set_cons_zero, List.set_cons_succ]
        refine wpL_calm (o := { dst := some 50, op := Go.Op.load 3 (Go.Operand.tmp 49), type := 3, pos := "rig.go:79", after := #[{ on := 2, ground := Go.Ground.data }], guard := none }) (v := ?_) rfl (Or.inl ⟨by rfl, ?_⟩) ?_; rotate_left; (focus (intro w hSw; (try dsimp only at hSw); go_simp; (try (with_reducible rfl)); done)); try simp only [Act.put, List.setIfInBounds_toArray, List.set_cons_zero, List.set_cons_succ]
        refine wpL_calm (o := { dst := some 51, op := Go.Op.move (Go.Operand.tmp 0), type := 23, pos := "rig.go:79", after := #[], guard := none }) (v := ?_) rfl (Or.inl ⟨by rfl, ?_⟩) ?_; rotate_left; (focus (intro w hSw; (try dsimp only at hSw); go_simp; (try (with_reducible rfl)); done)); try simp only [Act.put, List.setIfInBounds_toArray, List.set_cons_zero, List.set_cons_succ]
        refine wpL_calm (o := { dst := some 52, op := Go.Op.nilCheck (Go.Operand.tmp 51), type := 0, pos := "rig.go:79", after := #[{ on := 4, ground := Go.Ground.data }], guard := none }) (v := ?_) rfl (Or.inl ⟨by rfl, ?_⟩) ?_; rotate_left; (focus (intro w hSw; (try dsimp only at hSw); go_simp; (try (with_reducible rfl)); done)); try simp only [Act.put, List.setIfInBounds_toArray, List.set_cons_zero, List.set_cons_succ]
        refine wpL_calm (o := { dst := some 53, op := Go.Op.fieldAddr 55 (Go.Operand.tmp 52) 5, type := 0, pos := "rig.go:79", after := #[{ on := 5, ground := Go.Ground.data }], guard := none }) (v := ?_) rfl (Or.inl ⟨by rfl, ?_⟩) ?_; rotate_left; (focus (intro w hSw; (try dsimp only at hSw); go_simp; (try (with_reducible rfl)); done)); try simp only [Act.put, List.setIfInBounds_toArray, List.set_cons_zero, List.set_cons_succ]
        refine wpL_calm (o := { dst := some 54, op := Go.Op.load 3 (Go.Operand.tmp 53), type := 3, pos := "rig.go:79", after := #[{ on := 6, ground := Go.Ground.data }], guard := none }) (v := ?_) rfl (Or.inl ⟨by rfl, ?_⟩) ?_; rotate_left; (focus (intro w hSw; (try dsimp only at hSw); go_simp; (try (with_reducible rfl)); done)); try simp only [Act.put, List.setIfInBounds_toArray, List.set_cons_zero, List.set_cons_succ]
        refine wpL_calm (o := { dst := some 55, op := Go.Op.binOp Go.BinOp.eql 3 (Go.Operand.tmp 50) (Go.Operand.tmp 54) 3, type := 4, pos := "rig.go:79", after := #[{ on := 3, ground := Go.Ground.data }, { on := 7, ground := Go.Ground.data }], guard := none }) (v := ?_) rfl (Or.inl ⟨by rfl, ?_⟩) ?_; rotate_left; (focus (intro w hSw; (try dsimp only at hSw); go_simp; (try (with_reducible rfl)); done)); try simp only [Act.put, List.setIfInBounds_toArray, List.set_cons_zero, List.set_cons_succ]
        refine wpL_nil ?_
        refine NoPanic.normal ?_
        clear hHeld
        by_cases ha : c = S.arm
        · have ha' : (c == S.arm) = true := by rw [beq_iff_eq]; exact ha
          have HA := Lib.hid ha
          clear ha
          go_wp2_with fail
          go_ret
          exact ⟨11, rfl, Or.inr (Or.inl ⟨HDN.out, HC.out.trans HA.out, rfl, HR2.out.drew.set 3 (.bool true) rfl, HR2.out.drew.kset HK2.out.drew 3 _⟩)⟩
        · have ha' : (c == S.arm) = false := beq_eq_false_iff_ne.2 ha
          have HA := Lib.hid ha
          clear ha
          go_upto_region 9 with fail
          refine wp_region_lin_all (S := (fun w' => w'.cell? ⟨p.R, 4, none⟩ = some (.int .i64 c) ∧ w'.cell? ⟨p.R, 10, none⟩ = some (.int .i64 S.faulty))) [(0, true), (1, true), (2, true), (3, true), (4, true), (5, true), (6, true), (7, true), (8, true)] (by kernel_rfl) (by kernel_rfl) rfl (by kernel_rfl) ?_ (fun hHeld => ?_)
          · (try dsimp only); exact ⟨k4, k10⟩
          refine wpL_calm (o := { dst := some 59, op := Go.Op.move (Go.Operand.tmp 0), type := 23, pos := "rig.go:83", after := #[], guard := none }) (v := ?_) rfl (Or.inl ⟨by rfl, ?_⟩) ?_; rotate_left; (focus (intro w hSw; (try dsimp only at hSw); go_simp; (try (with_reducible rfl)); done)); try simp only [Act.put, List.setIfInBounds_toArray, List.set_cons_zero, List.set_cons_succ]
          refine wpL_calm (o := { dst := some 60, op := Go.Op.nilCheck (Go.Operand.tmp 59), type := 0, pos := "rig.go:83", after := #[{ on := 0, ground := Go.Ground.data }], guard := none }) (v := ?_) rfl (Or.inl ⟨by rfl, ?_⟩) ?_; rotate_left; (focus (intro w hSw; (try dsimp only at hSw); go_simp; (try (with_reducible rfl)); done)); try simp only [Act.put, List.setIfInBounds_toArray, List.set_cons_zero, List.set_cons_succ]
          refine wpL_calm (o := { dst := some 61, op := Go.Op.fieldAddr 55 (Go.Operand.tmp 60) 3, type := 0, pos := "rig.go:83", after := #[{ on := 1, ground := Go.Ground.data }], guard := none }) (v := ?_) rfl (Or.inl ⟨by rfl, ?_⟩) ?_; rotate_left; (focus (intro w hSw; (try dsimp only at hSw); go_simp; (try (with_reducible rfl)); done)); try simp only [Act.put, List.setIfInBounds_toArray, List.set_cons_zero, List.set_cons_succ]
          refine wpL_calm (o := { dst := some 62, op := Go.Op.load 3 (Go.Operand.tmp 61), type := 3, pos := "rig.go:83", after := #[{ on := 2, ground := Go.Ground.data }], guard := none }) (v := ?_) rfl (Or.inl ⟨by rfl, ?_⟩) ?_; rotate_left; (focus (intro w hSw; (try dsimp only at hSw); go_simp; (try (with_reducible rfl)); done)); try simp only [Act.put, List.setIfInBounds_toArray, List.set_cons_zero, List.set_cons_succ]
          refine wpL_calm (o := { dst := some 63, op := Go.Op.move (Go.Operand.tmp 0), type := 23, pos := "rig.go:83", after := #[], guard := none }) (v := ?_) rfl (Or.inl ⟨by rfl, ?_⟩) ?_; rotate_left; (focus (intro w hSw; (try dsimp only at hSw); go_simp; (try (with_reducible rfl)); done)); try simp only [Act.put, List.setIfInBounds_toArray, List.set_cons_zero, List.set_cons_succ]
          refine wpL_calm (o := { dst := some 64, op := Go.Op.nilCheck (Go.Operand.tmp 63), type := 0, pos := "rig.go:83", after := #[{ on := 4, ground := Go.Ground.data }], guard := none }) (v := ?_) rfl (Or.inl ⟨by rfl, ?_⟩) ?_; rotate_left; (focus (intro w hSw; (try dsimp only at hSw); go_simp; (try (with_reducible rfl)); done)); try simp only [Act.put, List.setIfInBounds_toArray, List.set_cons_zero, List.set_cons_succ]
          refine wpL_calm (o := { dst := some 65, op := Go.Op.fieldAddr 55 (Go.Operand.tmp 64) 6, type := 0, pos := "rig.go:83", after := #[{ on := 5, ground := Go.Ground.data }], guard := none }) (v := ?_) rfl (Or.inl ⟨by rfl, ?_⟩) ?_; rotate_left; (focus (intro w hSw; (try dsimp only at hSw); go_simp; (try (with_reducible rfl)); done)); try simp only [Act.put, List.setIfInBounds_toArray, List.set_cons_zero, List.set_cons_succ]
          refine wpL_calm (o := { dst := some 66, op := Go.Op.load 3 (Go.Operand.tmp 65), type := 3, pos := "rig.go:83", after := #[{ on := 6, ground := Go.Ground.data }], guard := none }) (v := ?_) rfl (Or.inl ⟨by rfl, ?_⟩) ?_; rotate_left; (focus (intro w hSw; (try dsimp only at hSw); go_simp; (try (with_reducible rfl)); done)); try simp only [Act.put, List.setIfInBounds_toArray, List.set_cons_zero, List.set_cons_succ]
          refine wpL_calm (o := { dst := some 67, op := Go.Op.binOp Go.BinOp.eql 3 (Go.Operand.tmp 62) (Go.Operand.tmp 66) 3, type := 4, pos := "rig.go:83", after := #[{ on := 3, ground := Go.Ground.data }, { on := 7, ground := Go.Ground.data }], guard := none }) (v := ?_) rfl (Or.inl ⟨by rfl, ?_⟩) ?_; rotate_left; (focus (intro w hSw; (try dsimp only at hSw); go_simp; (try (with_reducible rfl)); done)); try simp only [Act.put, List.setIfInBounds_toArray, List.set_cons_zero, List.set_cons_succ]
          refine wpL_nil ?_
          refine NoPanic.normal ?_
          clear hHeld
          by_cases hf : c = S.faulty
          · have hf' : (c == S.faulty) = true := by rw [beq_iff_eq]; exact hf
            have HF := Lib.hid hf
            clear hf
            go_wp2_with fail
            go_ret
            exact ⟨10, rfl, Or.inr (Or.inr (Or.inl ⟨HDN.out, fun h => HA.out (HC.out.symm.trans h), HC.out.trans HF.out, rfl, HR2.out.drew.drew, HK2.out.drew.drew⟩))⟩
          · have hf' : (c == S.faulty) = false := beq_eq_false_iff_ne.2 hf
            have HF := Lib.hid hf
            have CD := Lib.hid (hdo.out _ HR2.out.drew.drew HK2.out.drew.drew)
            clear hf hdo
            go_wp2_with fail
            refine (CD.out).mono ?_
            rintro e w4 ⟨k, rfl, hk⟩
            have HK4 := Lib.hid hk
            clear hk
            go_wp2_with fail
            go_ret
            exact ⟨k, rfl, Or.inr (Or.inr (Or.inr ⟨HDN.out, fun h => HA.out (HC.out.symm.trans h), fun h => HF.out (HC.out.symm.trans h), _, HR2.out.drew.drew, HK2.out.drew.drew, HK4.out⟩))⟩
      · as_aux_lemma =>
        have HH : Hid (S.hit0 c0 = c0 ∧ S.hit1 c1 = tmpB 288 c1 S.i S.s) := Lib.hid (by unfold RgS.hit0 RgS.hit1; rw [HC.out, hh, hd]; exact ⟨by first | rw [if_pos ⟨rfl, rfl⟩] | rw [if_neg (by rintro ⟨_, h⟩; exact absurd h (by decide))], by first | rw [if_pos ⟨rfl, rfl⟩] | rw [if_neg (by rintro ⟨_, h⟩; exact absurd h (by decide))]⟩)
        rw [hd] at k6
        have CT := Lib.hid (fun w hD => tamper_any p.g1 p.r1 288 c1 S.i S.s w hD)
        clear hd hh
        go_enter Try.func29, Try.ntmps29
        go_upto_region 4 with fail
        rw [HW.out]
        clear HW q3 q4 f4 hc'
        refine wp_region_lin_all (S := (fun w' => w'.cell? ⟨p.R, 4, none⟩ = some (.int .i64 c) ∧ w'.cell? ⟨p.R, 5, none⟩ = some (.int .i64 S.st))) [(0, true), (1, true), (2, true), (3, true), (4, true), (5, true), (6, true), (7, true), (8, true), (9, true)] (by kernel_rfl) (by kernel_rfl) rfl (by kernel_rfl) ?_ (fun hHeld => ?_)
        · (try dsimp only); exact ⟨k4, k5⟩
        refine wpL_calm (o := { dst := some 16, op := Go.Op.move (Go.Operand.tmp 0), type := 23, pos := "rig.go:76", after := #[], guard := none }) (v := ?_) rfl (Or.inl ⟨by rfl, ?_⟩) ?_; rotate_left; (focus (intro w hSw; (try dsimp only at hSw); go_simp; (try (with_reducible rfl)); done)); try simp only [Act.put, List.setIfInBounds_toArray, List.set_cons_zero, List.set_cons_succ]
        refine wpL_calm (o := { dst := some 17, op := Go.Op.nilCheck (Go.Operand.tmp 16), type := 0, pos := "rig.go:76", after := #[{ on := 0, ground := Go.Ground.data }], guard := none }) (v := ?_) rfl (Or.inl ⟨by rfl, ?_⟩) ?_; rotate_left; (focus (intro w hSw; (try dsimp only at hSw); go_simp; (try (with_reducible rfl)); done)); try simp only [Act.put, List.setIfInBounds_toArray, List.set_cons_zero, List.set_cons_succ]
        refine wpL_calm (o := { dst := some 18, op := Go.Op.fieldAddr 55 (Go.Operand.tmp 17) 3, type := 0, pos := "rig.go:76", after := #[{ on := 1, ground := Go.Ground.data }], guard := none }) (v := ?_) rfl (Or.inl ⟨by rfl, ?_⟩) ?_; rotate_left; (focus (intro w hSw; (try dsimp only at hSw); go_simp; (try (with_reducible rfl)); done)); try simp only [Act.put, List.setIfInBounds_toArray, List.set_cons_zero, List.set_cons_succ]
        refine wpL_calm (o := { dst := some 19, op := Go.Op.load 3 (Go.Operand.tmp 18), type := 3, pos := "rig.go:76", after := #[{ on := 2, ground := Go.Ground.data }], guard := none }) (v := ?_) rfl (Or.inl ⟨by rfl, ?_⟩) ?_; rotate_left; (focus (intro w hSw; (try dsimp only at hSw); go_simp; (try (with_reducible rfl)); done)); try simp only [Act.put, List.setIfInBounds_toArray, List.set_cons_zero, List.set_cons_succ]
        refine wpL_calm (o := { dst := some 20, op := Go.Op.move (Go.Operand.tmp 0), type := 23, pos := "rig.go:76", after := #[], guard := none }) (v := ?_) rfl (Or.inl ⟨by rfl, ?_⟩) ?_; rotate_left; (focus (intro w hSw; (try dsimp only at hSw); go_simp; (try (with_reducible rfl)); done)); try simp only [Act.put, List.setIfInBounds_toArray, List.set_cons_zero, List.set_cons_succ]
        refine wpL_calm (o := { dst := some 21, op := Go.Op.nilCheck (Go.Operand.tmp 20), type := 0, pos := "rig.go:76", after := #[{ on := 4, ground := Go.Ground.data }], guard := none }) (v := ?_) rfl (Or.inl ⟨by rfl, ?_⟩) ?_; rotate_left; (focus (intro w hSw; (try dsimp only at hSw); go_simp; (try (with_reducible rfl)); done)); try simp only [Act.put, List.setIfInBounds_toArray, List.set_cons_zero, List.set_cons_succ]
        refine wpL_calm (o := { dst := some 22, op := Go.Op.fieldAddr 55 (Go.Operand.tmp 21) 4, type := 0, pos := "rig.go:76", after := #[{ on := 5, ground := Go.Ground.data }], guard := none }) (v := ?_) rfl (Or.inl ⟨by rfl, ?_⟩) ?_; rotate_left; (focus (intro w hSw; (try dsimp only at hSw); go_simp; (try (with_reducible rfl)); done)); try simp only [Act.put, List.setIfInBounds_toArray, List.set_cons_zero, List.set_cons_succ]
        refine wpL_calm (o := { dst := some 23, op := Go.Op.fieldAddr 53 (Go.Operand.tmp 22) 0, type := 0, pos := "rig.go:76", after := #[{ on := 6, ground := Go.Ground.data }], guard := none }) (v := ?_) rfl (Or.inl ⟨by rfl, ?_⟩) ?_; rotate_left; (focus (intro w hSw; (try dsimp only at hSw); go_simp; (try (with_reducible rfl)); done)); try simp only [Act.put, List.setIfInBounds_toArray, List.set_cons_zero, List.set_cons_succ]
        refine wpL_calm (o := { dst := some 24, op := Go.Op.load 3 (Go.Operand.tmp 23), type := 3, pos := "rig.go:76", after := #[{ on := 7, ground := Go.Ground.data }], guard := none }) (v := ?_) rfl (Or.inl ⟨by rfl, ?_⟩) ?_; rotate_left; (focus (intro w hSw; (try dsimp only at hSw); go_simp; (try (with_reducible rfl)); done)); try simp only [Act.put, List.setIfInBounds_toArray, List.set_cons_zero, List.set_cons_succ]
        refine wpL_calm (o := { dst := some 25, op := Go.Op.binOp Go.BinOp.eql 3 (Go.Operand.tmp 19) (Go.Operand.tmp 24) 3, type := 4, pos := "rig.go:76", after := #[{ on := 3, ground := Go.Ground.data }, { on := 8, ground := Go.Ground.data }], guard := none }) (v := ?_) rfl (Or.inl ⟨by rfl, ?_⟩) ?_; rotate_left; (focus (intro w hSw; (try dsimp only at hSw); go_simp; (try (with_reducible rfl)); done)); try simp only [Act.put, List.setIfInBounds_toArray, List.set_cons_zero, List.set_cons_succ]
        refine wpL_nil ?_
        refine NoPanic.normal ?_
        clear hHeld
        go_upto_region 5 with fail
        have HR1' := Lib.hid HR1.out.drew
        have HK1' := Lib.hid HK1.out.drew
        refine wp_region_lin (S := (fun w' => w'.cell? ⟨p.R, 1, none⟩ = some (.pointer (some ⟨p.g1, 0, none⟩)) ∧ w'.cell? ⟨p.R, 6, none⟩ = some (.int .i64 1) ∧ w'.cell? ⟨p.R, 7, none⟩ = some (.int .i64 S.i) ∧ w'.cell? ⟨p.R, 8, none⟩ = some (.string S.s))) [(0, true), (1, true), (2, true), (3, true), (4, true), (5, true), (6, true), (7, true), (8, true), (9, true), (10, true), (11, true), (12, true), (13, true), (14, true), (15, true), (16, true), (17, true), (18, true), (19, true), (20, false)] (by kernel_rfl) (by kernel_rfl) rfl (by kernel_rfl) ?_ (fun hHeld => ?_)
        · (try dsimp only); exact ⟨k1, k6, k7, k8⟩
        refine wpL_calm (o := { dst := some 26, op := Go.Op.move (Go.Operand.tmp 0), type := 23, pos := "rig.go:77", after := #[], guard := none }) (v := ?_) rfl (Or.inl ⟨by rfl, ?_⟩) ?_; rotate_left; (focus (intro w hSw; (try dsimp only at hSw); go_simp; (try (with_reducible rfl)); done)); try simp only [Act.put, List.setIfInBounds_toArray, List.set_cons_zero, List.set_cons_succ]
        refine wpL_calm (o := { dst := some 27, op := Go.Op.move (Go.Operand.tmp 0), type := 23, pos := "rig.go:77", after := #[], guard := none }) (v := ?_) rfl (Or.inl ⟨by rfl, ?_⟩) ?_; rotate_left; (focus (intro w hSw; (try dsimp only at hSw); go_simp; (try (with_reducible rfl)); done)); try simp only [Act.put, List.setIfInBounds_toArray, List.set_cons_zero, List.set_cons_succ]
        refine wpL_calm (o := { dst := some 28, op := Go.Op.nilCheck (Go.Operand.tmp 27), type := 0, pos := "rig.go:77", after := #[{ on := 1, ground := Go.Ground.data }], guard := none }) (v := ?_) rfl (Or.inl ⟨by rfl, ?_⟩) ?_; rotate_left; (focus (intro w hSw; (try dsimp only at hSw); go_simp; (try (with_reducible rfl)); done)); try simp only [Act.put, List.setIfInBounds_toArray, List.set_cons_zero, List.set_cons_succ]
        refine wpL_calm (o := { dst := some 29, op := Go.Op.fieldAddr 55 (Go.Operand.tmp 28) 4, type := 0, pos := "rig.go:77", after := #[{ on := 2, ground := Go.Ground.data }], guard := none }) (v := ?_) rfl (Or.inl ⟨by rfl, ?_⟩) ?_; rotate_left; (focus (intro w hSw; (try dsimp only at hSw); go_simp; (try (with_reducible rfl)); done)); try simp only [Act.put, List.setIfInBounds_toArray, List.set_cons_zero, List.set_cons_succ]
        refine wpL_calm (o := { dst := some 30, op := Go.Op.fieldAddr 53 (Go.Operand.tmp 29) 1, type := 0, pos := "rig.go:77", after := #[{ on := 3, ground := Go.Ground.data }], guard := none }) (v := ?_) rfl (Or.inl ⟨by rfl, ?_⟩) ?_; rotate_left; (focus (intro w hSw; (try dsimp only at hSw); go_simp; (try (with_reducible rfl)); done)); try simp only [Act.put, List.setIfInBounds_toArray, List.set_cons_zero, List.set_cons_succ]
        refine wpL_calm (o := { dst := some 31, op := Go.Op.load 3 (Go.Operand.tmp 30), type := 3, pos := "rig.go:77", after := #[{ on := 4, ground := Go.Ground.data }], guard := none }) (v := ?_) rfl (Or.inl ⟨by rfl, ?_⟩) ?_; rotate_left; (focus (intro w hSw; (try dsimp only at hSw); go_simp; (try (with_reducible rfl)); done)); try simp only [Act.put, List.setIfInBounds_toArray, List.set_cons_zero, List.set_cons_succ]
        refine wpL_calm (o := { dst := some 32, op := Go.Op.nilCheck (Go.Operand.tmp 26), type := 0, pos := "rig.go:77", after := #[{ on := 0, ground := Go.Ground.data }], guard := none }) (v := ?_) rfl (Or.inl ⟨by rfl, ?_⟩) ?_; rotate_left; (focus (intro w hSw; (try dsimp only at hSw); go_simp; (try (with_reducible rfl)); done)); try simp only [Act.put, List.setIfInBounds_toArray, List.set_cons_zero, List.set_cons_succ]
        refine wpL_calm (o := { dst := some 33, op := Go.Op.fieldAddr 55 (Go.Operand.tmp 32) 0, type := 0, pos := "rig.go:77", after := #[{ on := 6, ground := Go.Ground.data }], guard := none }) (v := ?_) rfl (Or.inl ⟨by rfl, ?_⟩) ?_; rotate_left; (focus (intro w hSw; (try dsimp only at hSw); go_simp; (try (with_reducible rfl)); done)); try simp only [Act.put, List.setIfInBounds_toArray, List.set_cons_zero, List.set_cons_succ]
        refine wpL_calm (o := { dst := some 34, op := Go.Op.indexAddr 51 (Go.Operand.tmp 33) (Go.Operand.tmp 31), type := 0, pos := "rig.go:77", after := #[{ on := 7, ground := Go.Ground.data }, { on := 5, ground := Go.Ground.data }], guard := none }) (v := ?_) rfl (Or.inl ⟨by rfl, ?_⟩) ?_; rotate_left; (focus (intro w hSw; (try dsimp only at hSw); go_simp; (try (with_reducible rfl)); done)); try simp only [Act.put, List.setIfInBounds_toArray, List.set_cons_zero, List.set_cons_succ]
        refine wpL_calm (o := { dst := some 35, op := Go.Op.load 44 (Go.Operand.tmp 34), type := 44, pos := "rig.go:77", after := #[{ on := 8, ground := Go.Ground.data }], guard := none }) (v := ?_) rfl (Or.inl ⟨by rfl, ?_⟩) ?_; rotate_left; (focus (intro w hSw; (try dsimp only at hSw); go_simp; (try (with_reducible rfl)); done)); try simp only [Act.put, List.setIfInBounds_toArray, List.set_cons_zero, List.set_cons_succ]
        refine wpL_calm (o := { dst := some 36, op := Go.Op.move (Go.Operand.tmp 0), type := 23, pos := "rig.go:77", after := #[], guard := none }) (v := ?_) rfl (Or.inl ⟨by rfl, ?_⟩) ?_; rotate_left; (focus (intro w hSw; (try dsimp only at hSw); go_simp; (try (with_reducible rfl)); done)); try simp only [Act.put, List.setIfInBounds_toArray, List.set_cons_zero, List.set_cons_succ]
        refine wpL_calm (o := { dst := some 37, op := Go.Op.nilCheck (Go.Operand.tmp 36), type := 0, pos := "rig.go:77", after := #[{ on := 10, ground := Go.Ground.data }], guard := none }) (v := ?_) rfl (Or.inl ⟨by rfl, ?_⟩) ?_; rotate_left; (focus (intro w hSw; (try dsimp only at hSw); go_simp; (try (with_reducible rfl)); done)); try simp only [Act.put, List.setIfInBounds_toArray, List.set_cons_zero, List.set_cons_succ]
        refine wpL_calm (o := { dst := some 38, op := Go.Op.fieldAddr 55 (Go.Operand.tmp 37) 4, type := 0, pos := "rig.go:77", after := #[{ on := 11, ground := Go.Ground.data }], guard := none }) (v := ?_) rfl (Or.inl ⟨by rfl, ?_⟩) ?_; rotate_left; (focus (intro w hSw; (try dsimp only at hSw); go_simp; (try (with_reducible rfl)); done)); try simp only [Act.put, List.setIfInBounds_toArray, List.set_cons_zero, List.set_cons_succ]
        refine wpL_calm (o := { dst := some 39, op := Go.Op.fieldAddr 53 (Go.Operand.tmp 38) 2, type := 0, pos := "rig.go:77", after := #[{ on := 12, ground := Go.Ground.data }], guard := none }) (v := ?_) rfl (Or.inl ⟨by rfl, ?_⟩) ?_; rotate_left; (focus (intro w hSw; (try dsimp only at hSw); go_simp; (try (with_reducible rfl)); done)); try simp only [Act.put, List.setIfInBounds_toArray, List.set_cons_zero, List.set_cons_succ]
        refine wpL_calm (o := { dst := some 40, op := Go.Op.load 3 (Go.Operand.tmp 39), type := 3, pos := "rig.go:77", after := #[{ on := 13, ground := Go.Ground.data }], guard := none }) (v := ?_) rfl (Or.inl ⟨by rfl, ?_⟩) ?_; rotate_left; (focus (intro w hSw; (try dsimp only at hSw); go_simp; (try (with_reducible rfl)); done)); try simp only [Act.put, List.setIfInBounds_toArray, List.set_cons_zero, List.set_cons_succ]
        refine wpL_calm (o := { dst := some 41, op := Go.Op.move (Go.Operand.tmp 0), type := 23, pos := "rig.go:77", after := #[], guard := none }) (v := ?_) rfl (Or.inl ⟨by rfl, ?_⟩) ?_; rotate_left; (focus (intro w hSw; (try dsimp only at hSw); go_simp; (try (with_reducible rfl)); done)); try simp only [Act.put, List.setIfInBounds_toArray, List.set_cons_zero, List.set_cons_succ]
        refine wpL_calm (o := { dst := some 42, op := Go.Op.nilCheck (Go.Operand.tmp 41), type := 0, pos := "rig.go:77", after := #[{ on := 15, ground := Go.Ground.data }], guard := none }) (v := ?_) rfl (Or.inl ⟨by rfl, ?_⟩) ?_; rotate_left; (focus (intro w hSw; (try dsimp only at hSw); go_simp; (try (with_reducible rfl)); done)); try simp only [Act.put, List.setIfInBounds_toArray, List.set_cons_zero, List.set_cons_succ]
        refine wpL_calm (o := { dst := some 43, op := Go.Op.fieldAddr 55 (Go.Operand.tmp 42) 4, type := 0, pos := "rig.go:77", after := #[{ on := 16, ground := Go.Ground.data }], guard := none }) (v := ?_) rfl (Or.inl ⟨by rfl, ?_⟩) ?_; rotate_left; (focus (intro w hSw; (try dsimp only at hSw); go_simp; (try (with_reducible rfl)); done)); try simp only [Act.put, List.setIfInBounds_toArray, List.set_cons_zero, List.set_cons_succ]
        refine wpL_calm (o := { dst := some 44, op := Go.Op.fieldAddr 53 (Go.Operand.tmp 43) 3, type := 0, pos := "rig.go:77", after := #[{ on := 17, ground := Go.Ground.data }], guard := none }) (v := ?_) rfl (Or.inl ⟨by rfl, ?_⟩) ?_; rotate_left; (focus (intro w hSw; (try dsimp only at hSw); go_simp; (try (with_reducible rfl)); done)); try simp only [Act.put, List.setIfInBounds_toArray, List.set_cons_zero, List.set_cons_succ]
        refine wpL_calm (o := { dst := some 45, op := Go.Op.load 9 (Go.Operand.tmp 44), type := 9, pos := "rig.go:77", after := #[{ on := 18, ground := Go.Ground.data }], guard := none }) (v := ?_) rfl (Or.inl ⟨by rfl, ?_⟩) ?_; rotate_left; (focus (intro w hSw; (try dsimp only at hSw); go_simp; (try (with_reducible rfl)); done)); try simp only [Act.put, List.setIfInBounds_toArray, List.set_cons_zero, List.set_cons_succ]
        refine wpL_loud0 (o := { dst := some 46, op := Go.Op.call { callee := Go.Callee.value (Go.Operand.func 50), args := #[Go.Operand.tmp 35, Go.Operand.tmp 40, Go.Operand.tmp 45], argTypes := #[44, 3, 9] }, type := 36, pos := "rig.go:77", after := #[{ on := 9, ground := Go.Ground.data }, { on := 14, ground := Go.Ground.data }, { on := 19, ground := Go.Ground.data }], guard := none }) rfl (by kernel_rfl) (fun K hK => ?_)
        (go_simp; go_at_call 50; refine (CT.out _ HR1'.out.drew.d1).mono ?_; rintro e w2 ⟨rfl, hd2, hk2⟩)
        try go_wp2_with fail
        refine hK.out _ _ ?_
        clear hK K
        try simp only [Act.put, List.setIfInBounds_toArray, List.set_cons_zero, List.set_cons_succ]
        refine wpL_nil ?_
        refine NoPanic.normal ?_
        clear hHeld
        have HR2 : Hid (RgAt B w2 p S.on (S.hit0 c0) (S.hit1 c1)) := Lib.hid (by rw [HH.out.1, HH.out.2]; exact HR1'.out.drew.dev1 hd2 hk2)
        have HK2 : Hid (Kq B p.l w w2) := Lib.hid (HK1'.out.drew.trans (HR1'.out.drew.kq1 hk2))
        clear hd2 hk2 HR1' HK1' HR1 HK1 CT HH k0 k1 k4 k5 k6 k7 k8 k9 k10
        go_upto_region 6 with fail
        have KC := HR2.out.cells
        unfold RgS.on at KC
        dsimp only at KC
        rw [HC.out] at KC
        obtain ⟨-, -, -, k3, k4, -, -, -, -, k9, k10⟩ := KC
        have f3 := HR2.out.free 3
        refine wp_region_lin_all (S := (fun w' => w'.cell? ⟨p.R, 4, none⟩ = some (.int .i64 c) ∧ w'.cell? ⟨p.R, 9, none⟩ = some (.int .i64 S.arm))) [(0, true), (1, true), (2, true), (3, true), (4, true), (5, true), (6, true), (7, true), (8, true)] (by kernel_rfl) (by kernel_rfl) rfl (by kernel_rfl) ?_ (fun hHeld => ?_)
        · (try dsimp only); exact ⟨k4, k9⟩
        refine wpL_calm (o := { dst := some 47, op := Go.Op.move (Go.Operand.tmp 0), type := 23, pos := "rig.go:79", after := #[], guard := none }) (v := ?_) rfl (Or.inl ⟨by rfl, ?_⟩) ?_; rotate_left; (focus (intro w hSw; (try dsimp only at hSw); go_simp; (try (with_reducible rfl)); done)); try simp only [Act.put, List.setIfInBounds_toArray, List.set_cons_zero, List.set_cons_succ]
        refine wpL_calm (o := { dst := some 48, op := Go.Op.nilCheck (Go.Operand.tmp 47), type := 0, pos := "rig.go:79", after := #[{ on := 0, ground := Go.Ground.data }], guard := none }) (v := ?_) rfl (Or.inl ⟨by rfl, ?_⟩) ?_; rotate_left; (focus (intro w hSw; (try dsimp only at hSw); go_simp; (try (with_reducible rfl)); done)); try simp only [Act.put, List.setIfInBounds_toArray, List.set_cons_zero, List.set_cons_succ]
        refine wpL_calm (o := { dst := some 49, op := Go.Op.fieldAddr 55 (Go.Operand.tmp 48) 3, type := 0, pos := "rig.go:79", after := #[{ on := 1, ground := Go.Ground.data }], guard := none }) (v := ?_) rfl (Or.inl ⟨by rfl, ?_⟩) ?_; rotate_left; (focus (intro w hSw; (try dsimp only at hSw); go_simp; (try (with_reducible rfl)); done)); try simp only [Act.put, List.setIfInBounds_toArray, List.set_cons_zero, List.set_cons_succ]
        refine wpL_calm (o := { dst := some 50, op := Go.Op.load 3 (Go.Operand.tmp 49), type := 3, pos := "rig.go:79", after := #[{ on := 2, ground := Go.Ground.data }], guard := none }) (v := ?_) rfl (Or.inl ⟨by rfl, ?_⟩) ?_; rotate_left; (focus (intro w hSw; (try dsimp only at hSw); go_simp; (try (with_reducible rfl)); done)); try simp only [Act.put, List.setIfInBounds_toArray, List.set_cons_zero, List.set_cons_succ]
        refine wpL_calm (o := { dst := some 51, op := Go.Op.move (Go.Operand.tmp 0), type := 23, pos := "rig.go:79", after := #[], guard := none }) (v := ?_) rfl (Or.inl ⟨by rfl, ?_⟩) ?_; rotate_left; (focus (intro w hSw; (try dsimp only at hSw); go_simp; (try (with_reducible rfl)); done)); try simp only [Act.put, List.setIfInBounds_toArray, List.set_cons_zero, List.set_cons_succ]
        refine wpL_calm (o := { dst := some 52, op := Go.Op.nilCheck (Go.Operand.tmp 51), type := 0, pos := "rig.go:79", after := #[{ on := 4, ground := Go.Ground.data }], guard := none }) (v := ?_) rfl (Or.inl ⟨by rfl, ?_⟩) ?_; rotate_left; (focus (intro w hSw; (try dsimp only at hSw); go_simp; (try (with_reducible rfl)); done)); try simp only [Act.put, List.setIfInBounds_toArray, List.set_cons_zero, List.set_cons_succ]
        refine wpL_calm (o := { dst := some 53, op := Go.Op.fieldAddr 55 (Go.Operand.tmp 52) 5, type := 0, pos := "rig.go:79", after := #[{ on := 5, ground := Go.Ground.data }], guard := none }) (v := ?_) rfl (Or.inl ⟨by rfl, ?_⟩) ?_; rotate_left; (focus (intro w hSw; (try dsimp only at hSw); go_simp; (try (with_reducible rfl)); done)); try simp only [Act.put, List.setIfInBounds_toArray, List.set_cons_zero, List.set_cons_succ]
        refine wpL_calm (o := { dst := some 54, op := Go.Op.load 3 (Go.Operand.tmp 53), type := 3, pos := "rig.go:79", after := #[{ on := 6, ground := Go.Ground.data }], guard := none }) (v := ?_) rfl (Or.inl ⟨by rfl, ?_⟩) ?_; rotate_left; (focus (intro w hSw; (try dsimp only at hSw); go_simp; (try (with_reducible rfl)); done)); try simp only [Act.put, List.setIfInBounds_toArray, List.set_cons_zero, List.set_cons_succ]
        refine wpL_calm (o := { dst := some 55, op := Go.Op.binOp Go.BinOp.eql 3 (Go.Operand.tmp 50) (Go.Operand.tmp 54) 3, type := 4, pos := "rig.go:79", after := #[{ on := 3, ground := Go.Ground.data }, { on := 7, ground := Go.Ground.data }], guard := none }) (v := ?_) rfl (Or.inl ⟨by rfl, ?_⟩) ?_; rotate_left; (focus (intro w hSw; (try dsimp only at hSw); go_simp; (try (with_reducible rfl)); done)); try simp only [Act.put, List.setIfInBounds_toArray, List.set_cons_zero, List.set_cons_succ]
        refine wpL_nil ?_
        refine NoPanic.normal ?_
        clear hHeld
        by_cases ha : c = S.arm
        · have ha' : (c == S.arm) = true := by rw [beq_iff_eq]; exact ha
          have HA := Lib.hid ha
          clear ha
          go_wp2_with fail
          go_ret
          exact ⟨11, rfl, Or.inr (Or.inl ⟨HDN.out, HC.out.trans HA.out, rfl, HR2.out.drew.set 3 (.bool true) rfl, HR2.out.drew.kset HK2.out.drew 3 _⟩)⟩
        · have ha' : (c == S.arm) = false := beq_eq_false_iff_ne.2 ha
          have HA := Lib.hid ha
          clear ha
          go_upto_region 9 with fail
          refine wp_region_lin_all (S := (fun w' => w'.cell? ⟨p.R, 4, none⟩ = some (.int .i64 c) ∧ w'.cell? ⟨p.R, 10, none⟩ = some (.int .i64 S.faulty))) [(0, true), (1, true), (2, true), (3, true), (4, true), (5, true), (6, true), (7, true), (8, true)] (by kernel_rfl) (by kernel_rfl) rfl (by kernel_rfl) ?_ (fun hHeld => ?_)
          · (try dsimp only); exact ⟨k4, k10⟩
          refine wpL_calm (o := { dst := some 59, op := Go.Op.move (Go.Operand.tmp 0), type := 23, pos := "rig.go:83", after := #[], guard := none }) (v := ?_) rfl (Or.inl ⟨by rfl, ?_⟩) ?_; rotate_left; (focus (intro w hSw; (try dsimp only at hSw); go_simp; (try (with_reducible rfl)); done)); try simp only [Act.put, List.setIfInBounds_toArray, List.set_cons_zero, List.set_cons_succ]
          refine wpL_calm (o := { dst := some 60, op := Go.Op.nilCheck (Go.Operand.tmp 59), type := 0, pos := "rig.go:83", after := #[{ on := 0, ground := Go.Ground.data }], guard := none }) (v := ?_) rfl (Or.inl ⟨by rfl, ?_⟩) ?_; rotate_left; (focus (intro w hSw; (try dsimp only at hSw); go_simp; (try (with_reducible rfl)); done)); try simp only [Act.put, List.setIfInBounds_toArray, List.set_cons_zero, List.set_cons_succ]
          refine wpL_calm (o := { dst := some 61, op := Go.Op.fieldAddr 55 (Go.Operand.tmp 60) 3, type := 0, pos := "rig.go:83", after := #[{ on := 1, ground := Go.Ground.data }], guard := none }) (v := ?_) rfl (Or.inl ⟨by rfl, ?_⟩) ?_; rotate_left; (focus (intro w hSw; (try dsimp only at hSw); go_simp; (try (with_reducible rfl)); done)); try simp only [Act.put, List.setIfInBounds_toArray, List.set_cons_zero, List.set_cons_succ]
          refine wpL_calm (o := { dst := some 62, op := Go.Op.load 3 (Go.Operand.tmp 61), type := 3, pos := "rig.go:83", after := #[{ on := 2, ground := Go.Ground.data }], guard := none }) (v := ?_) rfl (Or.inl ⟨by rfl, ?_⟩) ?_; rotate_left; (focus (intro w hSw; (try dsimp only at hSw); go_simp; (try (with_reducible rfl)); done)); try simp only [Act.put, List.setIfInBounds_toArray, List.set_cons_zero, List.set_cons_succ]
          refine wpL_calm (o := { dst := some 63, op := Go.Op.move (Go.Operand.tmp 0), type := 23, pos := "rig.go:83", after := #[], guard := none }) (v := ?_) rfl (Or.inl ⟨by rfl, ?_⟩) ?_; rotate_left; (focus (intro w hSw; (try dsimp only at hSw); go_simp; (try (with_reducible rfl)); done)); try simp only [Act.put, List.setIfInBounds_toArray, List.set_cons_zero, List.set_cons_succ]
          refine wpL_calm (o := { dst := some 64, op := Go.Op.nilCheck (Go.Operand.tmp 63), type := 0, pos := "rig.go:83", after := #[{ on := 4, ground := Go.Ground.data }], guard := none }) (v := ?_) rfl (Or.inl ⟨by rfl, ?_⟩) ?_; rotate_left; (focus (intro w hSw; (try dsimp only at hSw); go_simp; (try (with_reducible rfl)); done)); try simp only [Act.put, List.setIfInBounds_toArray, List.set_cons_zero, List.set_cons_succ]
          refine wpL_calm (o := { dst := some 65, op := Go.Op.fieldAddr 55 (Go.Operand.tmp 64) 6, type := 0, pos := "rig.go:83", after := #[{ on := 5, ground := Go.Ground.data }], guard := none }) (v := ?_) rfl (Or.inl ⟨by rfl, ?_⟩) ?_; rotate_left; (focus (intro w hSw; (try dsimp only at hSw); go_simp; (try (with_reducible rfl)); done)); try simp only [Act.put, List.setIfInBounds_toArray, List.set_cons_zero, List.set_cons_succ]
          refine wpL_calm (o := { dst := some 66, op := Go.Op.load 3 (Go.Operand.tmp 65), type := 3, pos := "rig.go:83", after := #[{ on := 6, ground := Go.Ground.data }], guard := none }) (v := ?_) rfl (Or.inl ⟨by rfl, ?_⟩) ?_; rotate_left; (focus (intro w hSw; (try dsimp only at hSw); go_simp; (try (with_reducible rfl)); done)); try simp only [Act.put, List.setIfInBounds_toArray, List.set_cons_zero, List.set_cons_succ]
          refine wpL_calm (o := { dst := some 67, op := Go.Op.binOp Go.BinOp.eql 3 (Go.Operand.tmp 62) (Go.Operand.tmp 66) 3, type := 4, pos := "rig.go:83", after := #[{ on := 3, ground := Go.Ground.data }, { on := 7, ground := Go.Ground.data }], guard := none }) (v := ?_) rfl (Or.inl ⟨by rfl, ?_⟩) ?_; rotate_left; (focus (intro w hSw; (try dsimp only at hSw); go_simp; (try (with_reducible rfl)); done)); try simp only [Act.put, List.setIfInBounds_toArray, List.set_cons_zero, List.set_cons_succ]
          refine wpL_nil ?_
          refine NoPanic.normal ?_
          clear hHeld
          by_cases hf : c = S.faulty
          · have hf' : (c == S.faulty) = true := by rw [beq_iff_eq]; exact hf
            have HF := Lib.hid hf
            clear hf
            go_wp2_with fail
            go_ret
            exact ⟨10, rfl, Or.inr (Or.inr (Or.inl ⟨HDN.out, fun h => HA.out (HC.out.symm.trans h), HC.out.trans HF.out, rfl, HR2.out.drew.drew, HK2.out.drew.drew⟩))⟩
          · have hf' : (c == S.faulty) = false := beq_eq_false_iff_ne.2 hf
            have HF := Lib.hid hf
            have CD := Lib.hid (hdo.out _ HR2.out.drew.drew HK2.out.drew.drew)
            clear hf hdo
            go_wp2_with fail
            refine (CD.out).mono ?_
            rintro e w4 ⟨k, rfl, hk⟩
            have HK4 := Lib.hid hk
            clear hk
            go_wp2_with fail
            go_ret
            exact ⟨k, rfl, Or.inr (Or.inr (Or.inr ⟨HDN.out, fun h => HA.out (HC.out.symm.trans h), fun h => HF.out (HC.out.symm.trans h), _, HR2.out.drew.drew, HK2.out.drew.drew, HK4.out⟩))⟩
    · as_aux_lemma =>
        have ht : (c == S.st) = false := beq_eq_false_iff_ne.2 hh
        have HH : Hid (S.hit0 c0 = c0 ∧ S.hit1 c1 = c1) := Lib.hid (by unfold RgS.hit0 RgS.hit1; rw [HC.out]; exact ⟨if_neg (fun h => hh h.1), if_neg (fun h => hh h.1)⟩)
        clear hd hh
        go_enter Try.func29, Try.ntmps29
        go_upto_region 4 with fail
        rw [HW.out]
        clear HW q3 q4 f4 hc'
        refine wp_region_lin_all (S := (fun w' => w'.cell? ⟨p.R, 4, none⟩ = some (.int .i64 c) ∧ w'.cell? ⟨p.R, 5, none⟩ = some (.int .i64 S.st))) [(0, true), (1, true), (2, true), (3, true), (4, true), (5, true), (6, true), (7, true), (8, true), (9, true)] (by kernel_rfl) (by kernel_rfl) rfl (by kernel_rfl) ?_ (fun hHeld => ?_)
        · (try dsimp only); exact ⟨k4, k5⟩
        refine wpL_calm (o := { dst := some 16, op := Go.Op.move (Go.Operand.tmp 0), type := 23, pos := "rig.go:76", after := #[], guard := none }) (v := ?_) rfl (Or.inl ⟨by rfl, ?_⟩) ?_; rotate_left; (focus (intro w hSw; (try dsimp only at hSw); go_simp; (try (with_reducible rfl)); done)); try simp only [Act.put, List.setIfInBounds_toArray, List.set_cons_zero, List.set_cons_succ]
        refine wpL_calm (o := { dst := some 17, op := Go.Op.nilCheck (Go.Operand.tmp 16), type := 0, pos := "rig.go:76", after := #[{ on := 0, ground := Go.Ground.data }], guard := none }) (v := ?_) rfl (Or.inl ⟨by rfl, ?_⟩) ?_; rotate_left; (focus (intro w hSw; (try dsimp only at hSw); go_simp; (try (with_reducible rfl)); done)); try simp only [Act.put, List.setIfInBounds_toArray, List.set_cons_zero, List.set_cons_succ]
        refine wpL_calm (o := { dst := some 18, op := Go.Op.fieldAddr 55 (Go.Operand.tmp 17) 3, type := 0, pos := "rig.go:76", after := #[{ on := 1, ground := Go.Ground.data }], guard := none }) (v := ?_) rfl (Or.inl ⟨by rfl, ?_⟩) ?_; rotate_left; (focus (intro w hSw; (try dsimp only at hSw); go_simp; (try (with_reducible rfl)); done)); try simp only [Act.put, List.setIfInBounds_toArray, List.set_cons_zero, List.set_cons_succ]
        refine wpL_calm (o := { dst := some 19, op := Go.Op.load 3 (Go.Operand.tmp 18), type := 3, pos := "rig.go:76", after := #[{ on := 2, ground := Go.Ground.data }], guard := none }) (v := ?_) rfl (Or.inl ⟨by rfl, ?_⟩) ?_; rotate_left; (focus (intro w hSw; (try dsimp only at hSw); go_simp; (try (with_reducible rfl)); done)); try simp only [Act.put, List.setIfInBounds_toArray, List.set_cons_zero, List.set_cons_succ]
        refine wpL_calm (o := { dst := some 20, op := Go.Op.move (Go.Operand.tmp 0), type := 23, pos := "rig.go:76", after := #[], guard := none }) (v := ?_) rfl (Or.inl ⟨by rfl, ?_⟩) ?_; rotate_left; (focus (intro w hSw; (try dsimp only at hSw); go_simp; (try (with_reducible rfl)); done)); try simp only [Act.put, List.setIfInBounds_toArray, List.set_cons_zero, List.set_cons_succ]
        refine wpL_calm (o := { dst := some 21, op := Go.Op.nilCheck (Go.Operand.tmp 20), type := 0, pos := "rig.go:76", after := #[{ on := 4, ground := Go.Ground.data }], guard := none }) (v := ?_) rfl (Or.inl ⟨by rfl, ?_⟩) ?_; rotate_left; (focus (intro w hSw; (try dsimp only at hSw); go_simp; (try (with_reducible rfl)); done)); try simp only [Act.put, List.setIfInBounds_toArray, List.set_cons_zero, List.set_cons_succ]
        refine wpL_calm (o := { dst := some 22, op := Go.Op.fieldAddr 55 (Go.Operand.tmp 21) 4, type := 0, pos := "rig.go:76", after := #[{ on := 5, ground := Go.Ground.data }], guard := none }) (v := ?_) rfl (Or.inl ⟨by rfl, ?_⟩) ?_; rotate_left; (focus (intro w hSw; (try dsimp only at hSw); go_simp; (try (with_reducible rfl)); done)); try simp only [Act.put, List.setIfInBounds_toArray, List.set_cons_zero, List.set_cons_succ]
        refine wpL_calm (o := { dst := some 23, op := Go.Op.fieldAddr 53 (Go.Operand.tmp 22) 0, type := 0, pos := "rig.go:76", after := #[{ on := 6, ground := Go.Ground.data }], guard := none }) (v := ?_) rfl (Or.inl ⟨by rfl, ?_⟩) ?_; rotate_left; (focus (intro w hSw; (try dsimp only at hSw); go_simp; (try (with_reducible rfl)); done)); try simp only [Act.put, List.setIfInBounds_toArray, List.set_cons_zero, List.set_cons_succ]
        refine wpL_calm (o := { dst := some 24, op := Go.Op.load 3 (Go.Operand.tmp 23), type := 3, pos := "rig.go:76", after := #[{ on := 7, ground := Go.Ground.data }], guard := none }) (v := ?_) rfl (Or.inl ⟨by rfl, ?_⟩) ?_; rotate_left; (focus (intro w hSw; (try dsimp only at hSw); go_simp; (try (with_reducible rfl)); done)); try simp only [Act.put, List.setIfInBounds_toArray, List.set_cons_zero, List.set_cons_succ]
        refine wpL_calm (o := { dst := some 25, op := Go.Op.binOp Go.BinOp.eql 3 (Go.Operand.tmp 19) (Go.Operand.tmp 24) 3, type := 4, pos := "rig.go:76", after := #[{ on := 3, ground := Go.Ground.data }, { on := 8, ground := Go.Ground.data }], guard := none }) (v := ?_) rfl (Or.inl ⟨by rfl, ?_⟩) ?_; rotate_left; (focus (intro w hSw; (try dsimp only at hSw); go_simp; (try (with_reducible rfl)); done)); try simp only [Act.put, List.setIfInBounds_toArray, List.set_cons_zero, List.set_cons_succ]
        refine wpL_nil ?_
        refine NoPanic.normal ?_
        clear hHeld
        have HR2 : Hid (RgAt B w1.drew p S.on (S.hit0 c0) (S.hit1 c1)) := Lib.hid (by rw [HH.out.1, HH.out.2]; exact HR1.out.drew)
        have HK2 := Lib.hid HK1.out.drew
        generalize w1.drew = w2 at *
        clear HR1 HK1 HH k0 k1 k4 k5 k6 k7 k8 k9 k10
        go_upto_region 6 with fail
        have KC := HR2.out.cells
        unfold RgS.on at KC
        dsimp only at KC
        rw [HC.out] at KC
        obtain ⟨-, -, -, k3, k4, -, -, -, -, k9, k10⟩ := KC
        have f3 := HR2.out.free 3
        refine wp_region_lin_all (S := (fun w' => w'.cell? ⟨p.R, 4, none⟩ = some (.int .i64 c) ∧ w'.cell? ⟨p.R, 9, none⟩ = some (.int .i64 S.arm))) [(0, true), (1, true), (2, true), (3, true), (4, true), (5, true), (6, true), (7, true), (8, true)] (by kernel_rfl) (by kernel_rfl) rfl (by kernel_rfl) ?_ (fun hHeld => ?_)
        · (try dsimp only); exact ⟨k4, k9⟩
        refine wpL_calm (o := { dst := some 47, op := Go.Op.move (Go.Operand.tmp 0), type := 23, pos := "rig.go:79", after := #[], guard := none }) (v := ?_) rfl (Or.inl ⟨by rfl, ?_⟩) ?_; rotate_left; (focus (intro w hSw; (try dsimp only at hSw); go_simp; (try (with_reducible rfl)); done)); try simp only [Act.put, List.setIfInBounds_toArray, List.set_cons_zero, List.set_cons_succ]
        refine wpL_calm (o := { dst := some 48, op := Go.Op.nilCheck (Go.Operand.tmp 47), type := 0, pos := "rig.go:79", after := #[{ on := 0, ground := Go.Ground.data }], guard := none }) (v := ?_) rfl (Or.inl ⟨by rfl, ?_⟩) ?_; rotate_left; (focus (intro w hSw; (try dsimp only at hSw); go_simp; (try (with_reducible rfl)); done)); try simp only [Act.put, List.setIfInBounds_toArray, List.set_cons_zero, List.set_cons_succ]
        refine wpL_calm (o := { dst := some 49, op := Go.Op.fieldAddr 55 (Go.Operand.tmp 48) 3, type := 0, pos := "rig.go:79", after := #[{ on := 1, ground := Go.Ground.data }], guard := none }) (v := ?_) rfl (Or.inl ⟨by rfl, ?_⟩) ?_; rotate_left; (focus (intro w hSw; (try dsimp only at hSw); go_simp; (try (with_reducible rfl)); done)); try simp only [Act.put, List.setIfInBounds_toArray, List.set_cons_zero, List.set_cons_succ]
        refine wpL_calm (o := { dst := some 50, op := Go.Op.load 3 (Go.Operand.tmp 49), type := 3, pos := "rig.go:79", after := #[{ on := 2, ground := Go.Ground.data }], guard := none }) (v := ?_) rfl (Or.inl ⟨by rfl, ?_⟩) ?_; rotate_left; (focus (intro w hSw; (try dsimp only at hSw); go_simp; (try (with_reducible rfl)); done)); try simp only [Act.put, List.setIfInBounds_toArray, List.set_cons_zero, List.set_cons_succ]
        refine wpL_calm (o := { dst := some 51, op := Go.Op.move (Go.Operand.tmp 0), type := 23, pos := "rig.go:79", after := #[], guard := none }) (v := ?_) rfl (Or.inl ⟨by rfl, ?_⟩) ?_; rotate_left; (focus (intro w hSw; (try dsimp only at hSw); go_simp; (try (with_reducible rfl)); done)); try simp only [Act.put, List.setIfInBounds_toArray, List.set_cons_zero, List.set_cons_succ]
        refine wpL_calm (o := { dst := some 52, op := Go.Op.nilCheck (Go.Operand.tmp 51), type := 0, pos := "rig.go:79", after := #[{ on := 4, ground := Go.Ground.data }], guard := none }) (v := ?_) rfl (Or.inl ⟨by rfl, ?_⟩) ?_; rotate_left; (focus (intro w hSw; (try dsimp only at hSw); go_simp; (try (with_reducible rfl)); done)); try simp only [Act.put, List.setIfInBounds_toArray, List.set_cons_zero, List.set_cons_succ]
        refine wpL_calm (o := { dst := some 53, op := Go.Op.fieldAddr 55 (Go.Operand.tmp 52) 5, type := 0, pos := "rig.go:79", after := #[{ on := 5, ground := Go.Ground.data }], guard := none }) (v := ?_) rfl (Or.inl ⟨by rfl, ?_⟩) ?_; rotate_left; (focus (intro w hSw; (try dsimp only at hSw); go_simp; (try (with_reducible rfl)); done)); try simp only [Act.put, List.setIfInBounds_toArray, List.set_cons_zero, List.set_cons_succ]
        refine wpL_calm (o := { dst := some 54, op := Go.Op.load 3 (Go.Operand.tmp 53), type := 3, pos := "rig.go:79", after := #[{ on := 6, ground := Go.Ground.data }], guard := none }) (v := ?_) rfl (Or.inl ⟨by rfl, ?_⟩) ?_; rotate_left; (focus (intro w hSw; (try dsimp only at hSw); go_simp; (try (with_reducible rfl)); done)); try simp only [Act.put, List.setIfInBounds_toArray, List.set_cons_zero, List.set_cons_succ]
        refine wpL_calm (o := { dst := some 55, op := Go.Op.binOp Go.BinOp.eql 3 (Go.Operand.tmp 50) (Go.Operand.tmp 54) 3, type := 4, pos := "rig.go:79", after := #[{ on := 3, ground := Go.Ground.data }, { on := 7, ground := Go.Ground.data }], guard := none }) (v := ?_) rfl (Or.inl ⟨by rfl, ?_⟩) ?_; rotate_left; (focus (intro w hSw; (try dsimp only at hSw); go_simp; (try (with_reducible rfl)); done)); try simp only [Act.put, List.setIfInBounds_toArray, List.set_cons_zero, List.set_cons_succ]
        refine wpL_nil ?_
        refine NoPanic.normal ?_
        clear hHeld
        by_cases ha : c = S.arm
        · have ha' : (c == S.arm) = true := by rw [beq_iff_eq]; exact ha
          have HA := Lib.hid ha
          clear ha
          go_wp2_with fail
          go_ret
          exact ⟨11, rfl, Or.inr (Or.inl ⟨HDN.out, HC.out.trans HA.out, rfl, HR2.out.drew.set 3 (.bool true) rfl, HR2.out.drew.kset HK2.out.drew 3 _⟩)⟩
        · have ha' : (c == S.arm) = false := beq_eq_false_iff_ne.2 ha
          have HA := Lib.hid ha
          clear ha
          go_upto_region 9 with fail
          refine wp_region_lin_all (S := (fun w' => w'.cell? ⟨p.R, 4, none⟩ = some (.int .i64 c) ∧ w'.cell? ⟨p.R, 10, none⟩ = some (.int .i64 S.faulty))) [(0, true), (1, true), (2, true), (3, true), (4, true), (5, true), (6, true), (7, true), (8, true)] (by kernel_rfl) (by kernel_rfl) rfl (by kernel_rfl) ?_ (fun hHeld => ?_)
          · (try dsimp only); exact ⟨k4, k10⟩
          refine wpL_calm (o := { dst := some 59, op := Go.Op.move (Go.Operand.tmp 0), type := 23, pos := "rig.go:83", after := #[], guard := none }) (v := ?_) rfl (Or.inl ⟨by rfl, ?_⟩) ?_; rotate_left; (focus (intro w hSw; (try dsimp only at hSw); go_simp; (try (with_reducible rfl)); done)); try simp only [Act.put, List.setIfInBounds_toArray, List.set_cons_zero, List.set_cons_succ]
          refine wpL_calm (o := { dst := some 60, op := Go.Op.nilCheck (Go.Operand.tmp 59), type := 0, pos := "rig.go:83", after := #[{ on := 0, ground := Go.Ground.data }], guard := none }) (v := ?_) rfl (Or.inl ⟨by rfl, ?_⟩) ?_; rotate_left; (focus (intro w hSw; (try dsimp only at hSw); go_simp; (try (with_reducible rfl)); done)); try simp only [Act.put, List.setIfInBounds_toArray, List.set_cons_zero, List.set_cons_succ]
          refine wpL_calm (o := { dst := some 61, op := Go.Op.fieldAddr 55 (Go.Operand.tmp 60) 3, type := 0, pos := "rig.go:83", after := #[{ on := 1, ground := Go.Ground.data }], guard := none }) (v := ?_) rfl (Or.inl ⟨by rfl, ?_⟩) ?_; rotate_left; (focus (intro w hSw; (try dsimp only at hSw); go_simp; (try (with_reducible rfl)); done)); try simp only [Act.put, List.setIfInBounds_toArray, List.set_cons_zero, List.set_cons_succ]
          refine wpL_calm (o := { dst := some 62, op := Go.Op.load 3 (Go.Operand.tmp 61), type := 3, pos := "rig.go:83", after := #[{ on := 2, ground := Go.Ground.data }], guard := none }) (v := ?_) rfl (Or.inl ⟨by rfl, ?_⟩) ?_; rotate_left; (focus (intro w hSw; (try dsimp only at hSw); go_simp; (try (with_reducible rfl)); done)); try simp only [Act.put, List.setIfInBounds_toArray, List.set_cons_zero, List.set_cons_succ]
          refine wpL_calm (o := { dst := some 63, op := Go.Op.move (Go.Operand.tmp 0), type := 23, pos := "rig.go:83", after := #[], guard := none }) (v := ?_) rfl (Or.inl ⟨by rfl, ?_⟩) ?_; rotate_left; (focus (intro w hSw; (try dsimp only at hSw); go_simp; (try (with_reducible rfl)); done)); try simp only [Act.put, List.setIfInBounds_toArray, List.set_cons_zero, List.set_cons_succ]
          refine wpL_calm (o := { dst := some 64, op := Go.Op.nilCheck (Go.Operand.tmp 63), type := 0, pos := "rig.go:83", after := #[{ on := 4, ground := Go.Ground.data }], guard := none }) (v := ?_) rfl (Or.inl ⟨by rfl, ?_⟩) ?_; rotate_left; (focus (intro w hSw; (try dsimp only at hSw); go_simp; (try (with_reducible rfl)); done)); try simp only [Act.put, List.setIfInBounds_toArray, List.set_cons_zero, List.set_cons_succ]
          refine wpL_calm (o := { dst := some 65, op := Go.Op.fieldAddr 55 (Go.Operand.tmp 64) 6, type := 0, pos := "rig.go:83", after := #[{ on := 5, ground := Go.Ground.data }], guard := none }) (v := ?_) rfl (Or.inl ⟨by rfl, ?_⟩) ?_; rotate_left; (focus (intro w hSw; (try dsimp only at hSw); go_simp; (try (with_reducible rfl)); done)); try simp only [Act.put, List.setIfInBounds_toArray, List.set_cons_zero, List.set_cons_succ]
          refine wpL_calm (o := { dst := some 66, op := Go.Op.load 3 (Go.Operand.tmp 65), type := 3, pos := "rig.go:83", after := #[{ on := 6, ground := Go.Ground.data }], guard := none }) (v := ?_) rfl (Or.inl ⟨by rfl, ?_⟩) ?_; rotate_left; (focus (intro w hSw; (try dsimp only at hSw); go_simp; (try (with_reducible rfl)); done)); try simp only [Act.put, List.setIfInBounds_toArray, List.set_cons_zero, List.set_cons_succ]
          refine wpL_calm (o := { dst := some 67, op := Go.Op.binOp Go.BinOp.eql 3 (Go.Operand.tmp 62) (Go.Operand.tmp 66) 3, type := 4, pos := "rig.go:83", after := #[{ on := 3, ground := Go.Ground.data }, { on := 7, ground := Go.Ground.data }], guard := none }) (v := ?_) rfl (Or.inl ⟨by rfl, ?_⟩) ?_; rotate_left; (focus (intro w hSw; (try dsimp only at hSw); go_simp; (try (with_reducible rfl)); done)); try simp only [Act.put, List.setIfInBounds_toArray, List.set_cons_zero, List.set_cons_succ]
          refine wpL_nil ?_
          refine NoPanic.normal ?_
          clear hHeld
          by_cases hf : c = S.faulty
          · have hf' : (c == S.faulty) = true := by rw [beq_iff_eq]; exact hf
            have HF := Lib.hid hf
            clear hf
            go_wp2_with fail
            go_ret
            exact ⟨10, rfl, Or.inr (Or.inr (Or.inl ⟨HDN.out, fun h => HA.out (HC.out.symm.trans h), HC.out.trans HF.out, rfl, HR2.out.drew.drew, HK2.out.drew.drew⟩))⟩
          · have hf' : (c == S.faulty) = false := beq_eq_false_iff_ne.2 hf
            have HF := Lib.hid hf
            have CD := Lib.hid (hdo.out _ HR2.out.drew.drew HK2.out.drew.drew)
            clear hf hdo
            go_wp2_with fail
            refine (CD.out).mono ?_
            rintro e w4 ⟨k, rfl, hk⟩
            have HK4 := Lib.hid hk
            clear hk
            go_wp2_with fail
            go_ret
            exact ⟨k, rfl, Or.inr (Or.inr (Or.inr ⟨HDN.out, fun h => HA.out (HC.out.symm.trans h), fun h => HF.out (HC.out.symm.trans h), _, HR2.out.drew.drew, HK2.out.drew.drew, HK4.out⟩))⟩
end Go.Proofs.Ytjmginkkjkbpoaa
