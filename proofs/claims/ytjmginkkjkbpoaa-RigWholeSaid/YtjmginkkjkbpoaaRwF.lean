/- The reference's rig: a step. -/
import Derived.Test.YtjmginkkjkbpoaaRwE
namespace Go.Proofs.Ytjmginkkjkbpoaa
open Go.RowKit Go.Deep
set_option linter.unusedVariables false
set_option linter.unusedSimpArgs false
/-- What a call of the reference's rig leaves: a number, a rig, and nothing else changed. -/
def XPost (B x g0 g1 : Nat) (w : World) (e : Ending) (w' : World) : Prop := ∃ (z : Int) (S : XrS), e = .returned (.int .i64 z) ∧ XAt w' B x g0 g1 S ∧ Kq B (xrl x g0 g1) w w'
/-- A rig, and what has changed until now. -/
def XMid (B x g0 g1 : Nat) (w w' : World) : Prop := ∃ S : XrS, XAt w' B x g0 g1 S ∧ Kq B (xrl x g0 g1) w w'
theorem XMid.mk' {B x g0 g1 : Nat} {w w' : World} {S : XrS} (h : XAt w' B x g0 g1 S) (k : Kq B (xrl x g0 g1) w w') : XMid B x g0 g1 w w' := ⟨S, h, k⟩
theorem XrS.ok.ok_less {S : XrS} (h : S.ok) : ({ S with lt := lessN S.lt } : XrS).ok := by
  unfold XrS.ok at h ⊢
  rcases h with h | h
  · exact Or.inl (by dsimp only; rw [lessN_zero h]; exact Int.le_refl _)
  · exact Or.inr h
set_option maxRecDepth 100000 in
set_option maxHeartbeats 20000000 in
theorem xStep_any (B x g0 g1 : Nat) (S : XrS) (w : World) (hX : XAt w B x g0 g1 S) (hBw : B ≤ w.heap.size) : Calls Try.prog 32 #[.pointer (some ⟨x, 0, none⟩)] w fun e w' => XPost B x g0 g1 w e w' := by
  obtain ⟨q0, q1, q2, q3, q4, q5, q6, q7, q8, q9, q10⟩ := hX.cells
  cases hdn : S.dn with
  | true =>
    rw [hdn] at q3
    have HX := Lib.hid hX
    clear hX q0 q1 q2 q4 q5 q6 q7 q8 q9 q10 hdn
    go_enter Try.func32, Try.ntmps32
    go_wp2_with fail
    go_ret
    exact ⟨_, S, rfl, HX.out, Kq.refl _ _ _⟩
  | false =>
    rw [hdn] at q3
    have f4 := hX.free 4
    obtain ⟨ca1, hca1⟩ : ∃ m, IntKind.i64.wrap (S.ca + 1) = m := ⟨_, rfl⟩
    have HX1 : Hid (XAt (w.setCell ⟨x, 4, none⟩ (.int .i64 ca1)) B x g0 g1 { S with ca := ca1 }) := Lib.hid (hX.set 4 _ rfl hX.ok)
    have HK1 : Hid (Kq B (xrl x g0 g1) w (w.setCell ⟨x, 4, none⟩ (.int .i64 ca1))) := Lib.hid (hX.kset (Kq.refl _ _ _) 4 _)
    clear hX q0 q1 q2 q5 q6 q7 q8 q9 q10 hdn
    go_enter Try.func32, Try.ntmps32
    go_upto_region 4 with fail
    clear q3 q4 f4
    generalize w.setCell ⟨x, 4, none⟩ (.int .i64 ca1) = w1 at *
    generalize ({ S with ca := ca1 } : XrS) = S1 at *
    clear hca1
    have HM1 : Hid (XMid B x g0 g1 w w1) := Lib.hid ⟨S1, HX1.out, HK1.out⟩
    obtain ⟨q0, q1, q2, q3, q4, q5, q6, q7, q8, q9, q10⟩ := HX1.out.cells
    have hzz : B ≤ w1.heap.size := Nat.le_trans hBw HK1.out.below.size
    go_upto_if 20 with fail
    go_cut [3] from 20 to 40 (fun s3 wx => s3 = undef ∧ Hid (XMid B x g0 g1 w wx))
    case first =>
      by_cases hlt : S1.lt = 1
      · have hok : (S1.a0 = 0 ∨ S1.a0 = 1) ∧ (0 ≤ S1.a1 ∧ S1.a1 < 288) ∧ S1.s.size = 64 := by
          rcases HX1.out.ok with h | h
          · omega
          · exact h
        obtain ⟨ha0, ⟨hb0, hb1⟩, hs⟩ := hok
        obtain ⟨i, hi⟩ : ∃ i : Nat, S1.a1 = (i : Int) := ⟨S1.a1.toNat, by omega⟩
        have hi288 : i < 288 := by omega
        have hb : (S1.lt == 1) = true := by rw [hlt]; rfl
        rw [hi] at q9
        have PT0 := Lib.hid (fun (w' : World) (h : Below w1.heap.size w1 w') => dvTamper_any B g0 i S1.s w' (HX1.out.d0.below h) hi288 hs (Nat.le_trans hzz h.size))
        have PT1 := Lib.hid (fun (w' : World) (h : Below w1.heap.size w1 w') => dvTamper_any B g1 i S1.s w' (HX1.out.d1.below h) hi288 hs (Nat.le_trans hzz h.size))
        have HK0 : Hid (XAt w1.drew B x g0 g1 S1 ∧ Kq B (xrl x g0 g1) w w1.drew) := Lib.hid ⟨HX1.out.drew, HK1.out.drew⟩
        have E9 := Lib.hid hi
        obtain ⟨s, hss⟩ : ∃ s, Hid (S1.s = s) := ⟨_, Lib.hid rfl⟩
        have E10 := hss
        rw [hss.out] at q10 PT0 PT1
        rcases ha0 with ha0 | ha0
        · rw [ha0] at q8
          have E8 := Lib.hid ha0
          clear hlt hi hb0 hb1 ha0 hs q2 q3 q4 q6 q7
          go_upto_region 5 with fail
          refine wp_region_lin_all (S := (fun w' => w'.cell? ⟨x, 0, none⟩ = some (.pointer (some ⟨g0, 0, none⟩)) ∧ w'.cell? ⟨x, 8, none⟩ = some (.int .i64 0) ∧ w'.cell? ⟨x, 9, none⟩ = some (.int .i64 (i : Int)) ∧ w'.cell? ⟨x, 10, none⟩ = some (.string s))) [(0, true), (1, true), (2, true), (3, true), (4, true), (5, true), (6, true), (7, true), (8, true), (9, true), (10, true), (11, true), (12, true), (13, true), (14, true), (15, true), (16, true), (17, true), (18, true), (19, false)] (by kernel_rfl) (by kernel_rfl) rfl (by kernel_rfl) ?_ (fun hHeld => ?_)
          · (try dsimp only); exact ⟨q0, q8, q9, q10⟩
          have HB2 : Hid (Below w1.heap.size w1 w1.drew) := Lib.hid (Below.refl _ _).drew
          generalize World.drew w1 = w2 at hHeld HB2 HK0 ⊢
          refine wpL_calm (o := { dst := some 21, op := Go.Op.move (Go.Operand.tmp 0), type := 27, pos := "ref.go:31", after := #[], guard := none }) (v := ?_) rfl (Or.inl ⟨by rfl, ?_⟩) ?_; rotate_left; (focus (intro w hSw; (try dsimp only at hSw); go_simp; (try (with_reducible rfl)); done)); try simp only [Act.put, List.setIfInBounds_toArray, List.set_cons_zero, List.set_cons_succ]
          refine wpL_calm (o := { dst := some 22, op := Go.Op.move (Go.Operand.tmp 0), type := 27, pos := "ref.go:31", after := #[], guard := none }) (v := ?_) rfl (Or.inl ⟨by rfl, ?_⟩) ?_; rotate_left; (focus (intro w hSw; (try dsimp only at hSw); go_simp; (try (with_reducible rfl)); done)); try simp only [Act.put, List.setIfInBounds_toArray, List.set_cons_zero, List.set_cons_succ]
          refine wpL_calm (o := { dst := some 23, op := Go.Op.nilCheck (Go.Operand.tmp 22), type := 0, pos := "ref.go:31", after := #[{ on := 1, ground := Go.Ground.data }], guard := none }) (v := ?_) rfl (Or.inl ⟨by rfl, ?_⟩) ?_; rotate_left; (focus (intro w hSw; (try dsimp only at hSw); go_simp; (try (with_reducible rfl)); done)); try simp only [Act.put, List.setIfInBounds_toArray, List.set_cons_zero, List.set_cons_succ]
          refine wpL_calm (o := { dst := some 24, op := Go.Op.fieldAddr 64 (Go.Operand.tmp 23) 7, type := 0, pos := "ref.go:31", after := #[{ on := 2, ground := Go.Ground.data }], guard := none }) (v := ?_) rfl (Or.inl ⟨by rfl, ?_⟩) ?_; rotate_left; (focus (intro w hSw; (try dsimp only at hSw); go_simp; (try (with_reducible rfl)); done)); try simp only [Act.put, List.setIfInBounds_toArray, List.set_cons_zero, List.set_cons_succ]
          refine wpL_calm (o := { dst := some 25, op := Go.Op.indexAddr 62 (Go.Operand.tmp 24) (Go.Operand.const (Go.Value.int Go.IntKind.i64 0)), type := 0, pos := "ref.go:31", after := #[{ on := 3, ground := Go.Ground.data }], guard := none }) (v := ?_) rfl (Or.inl ⟨by rfl, ?_⟩) ?_; rotate_left; (focus (intro w hSw; (try dsimp only at hSw); go_simp; (try (with_reducible rfl)); done)); try simp only [Act.put, List.setIfInBounds_toArray, List.set_cons_zero, List.set_cons_succ]
          refine wpL_calm (o := { dst := some 26, op := Go.Op.load 3 (Go.Operand.tmp 25), type := 3, pos := "ref.go:31", after := #[{ on := 4, ground := Go.Ground.data }], guard := none }) (v := ?_) rfl (Or.inl ⟨by rfl, ?_⟩) ?_; rotate_left; (focus (intro w hSw; (try dsimp only at hSw); go_simp; (try (with_reducible rfl)); done)); try simp only [Act.put, List.setIfInBounds_toArray, List.set_cons_zero, List.set_cons_succ]
          refine wpL_calm (o := { dst := some 27, op := Go.Op.nilCheck (Go.Operand.tmp 21), type := 0, pos := "ref.go:31", after := #[{ on := 0, ground := Go.Ground.data }], guard := none }) (v := ?_) rfl (Or.inl ⟨by rfl, ?_⟩) ?_; rotate_left; (focus (intro w hSw; (try dsimp only at hSw); go_simp; (try (with_reducible rfl)); done)); try simp only [Act.put, List.setIfInBounds_toArray, List.set_cons_zero, List.set_cons_succ]
          refine wpL_calm (o := { dst := some 28, op := Go.Op.fieldAddr 64 (Go.Operand.tmp 27) 0, type := 0, pos := "ref.go:31", after := #[{ on := 6, ground := Go.Ground.data }], guard := none }) (v := ?_) rfl (Or.inl ⟨by rfl, ?_⟩) ?_; rotate_left; (focus (intro w hSw; (try dsimp only at hSw); go_simp; (try (with_reducible rfl)); done)); try simp only [Act.put, List.setIfInBounds_toArray, List.set_cons_zero, List.set_cons_succ]
          refine wpL_calm (o := { dst := some 29, op := Go.Op.indexAddr 61 (Go.Operand.tmp 28) (Go.Operand.tmp 26), type := 0, pos := "ref.go:31", after := #[{ on := 7, ground := Go.Ground.data }, { on := 5, ground := Go.Ground.data }], guard := none }) (v := ?_) rfl (Or.inl ⟨by rfl, ?_⟩) ?_; rotate_left; (focus (intro w hSw; (try dsimp only at hSw); go_simp; (try (with_reducible rfl)); done)); try simp only [Act.put, List.setIfInBounds_toArray, List.set_cons_zero, List.set_cons_succ]
          refine wpL_calm (o := { dst := some 30, op := Go.Op.load 59 (Go.Operand.tmp 29), type := 59, pos := "ref.go:31", after := #[{ on := 8, ground := Go.Ground.data }], guard := none }) (v := ?_) rfl (Or.inl ⟨by rfl, ?_⟩) ?_; rotate_left; (focus (intro w hSw; (try dsimp only at hSw); go_simp; (try (with_reducible rfl)); done)); try simp only [Act.put, List.setIfInBounds_toArray, List.set_cons_zero, List.set_cons_succ]
          refine wpL_calm (o := { dst := some 31, op := Go.Op.move (Go.Operand.tmp 0), type := 27, pos := "ref.go:31", after := #[], guard := none }) (v := ?_) rfl (Or.inl ⟨by rfl, ?_⟩) ?_; rotate_left; (focus (intro w hSw; (try dsimp only at hSw); go_simp; (try (with_reducible rfl)); done)); try simp only [Act.put, List.setIfInBounds_toArray, List.set_cons_zero, List.set_cons_succ]
          refine wpL_calm (o := { dst := some 32, op := Go.Op.nilCheck (Go.Operand.tmp 31), type := 0, pos := "ref.go:31", after := #[{ on := 10, ground := Go.Ground.data }], guard := none }) (v := ?_) rfl (Or.inl ⟨by rfl, ?_⟩) ?_; rotate_left; (focus (intro w hSw; (try dsimp only at hSw); go_simp; (try (with_reducible rfl)); done)); try simp only [Act.put, List.setIfInBounds_toArray, List.set_cons_zero, List.set_cons_succ]
          refine wpL_calm (o := { dst := some 33, op := Go.Op.fieldAddr 64 (Go.Operand.tmp 32) 7, type := 0, pos := "ref.go:31", after := #[{ on := 11, ground := Go.Ground.data }], guard := none }) (v := ?_) rfl (Or.inl ⟨by rfl, ?_⟩) ?_; rotate_left; (focus (intro w hSw; (try dsimp only at hSw); go_simp; (try (with_reducible rfl)); done)); try simp only [Act.put, List.setIfInBounds_toArray, List.set_cons_zero, List.set_cons_succ]
          refine wpL_calm (o := { dst := some 34, op := Go.Op.indexAddr 62 (Go.Operand.tmp 33) (Go.Operand.const (Go.Value.int Go.IntKind.i64 1)), type := 0, pos := "ref.go:31", after := #[{ on := 12, ground := Go.Ground.data }], guard := none }) (v := ?_) rfl (Or.inl ⟨by rfl, ?_⟩) ?_; rotate_left; (focus (intro w hSw; (try dsimp only at hSw); go_simp; (try (with_reducible rfl)); done)); try simp only [Act.put, List.setIfInBounds_toArray, List.set_cons_zero, List.set_cons_succ]
          refine wpL_calm (o := { dst := some 35, op := Go.Op.load 3 (Go.Operand.tmp 34), type := 3, pos := "ref.go:31", after := #[{ on := 13, ground := Go.Ground.data }], guard := none }) (v := ?_) rfl (Or.inl ⟨by rfl, ?_⟩) ?_; rotate_left; (focus (intro w hSw; (try dsimp only at hSw); go_simp; (try (with_reducible rfl)); done)); try simp only [Act.put, List.setIfInBounds_toArray, List.set_cons_zero, List.set_cons_succ]
          refine wpL_calm (o := { dst := some 36, op := Go.Op.move (Go.Operand.tmp 0), type := 27, pos := "ref.go:31", after := #[], guard := none }) (v := ?_) rfl (Or.inl ⟨by rfl, ?_⟩) ?_; rotate_left; (focus (intro w hSw; (try dsimp only at hSw); go_simp; (try (with_reducible rfl)); done)); try simp only [Act.put, List.setIfInBounds_toArray, List.set_cons_zero, List.set_cons_succ]
          refine wpL_calm (o := { dst := some 37, op := Go.Op.nilCheck (Go.Operand.tmp 36), type := 0, pos := "ref.go:31", after := #[{ on := 15, ground := Go.Ground.data }], guard := none }) (v := ?_) rfl (Or.inl ⟨by rfl, ?_⟩) ?_; rotate_left; (focus (intro w hSw; (try dsimp only at hSw); go_simp; (try (with_reducible rfl)); done)); try simp only [Act.put, List.setIfInBounds_toArray, List.set_cons_zero, List.set_cons_succ]
          refine wpL_calm (o := { dst := some 38, op := Go.Op.fieldAddr 64 (Go.Operand.tmp 37) 8, type := 0, pos := "ref.go:31", after := #[{ on := 16, ground := Go.Ground.data }], guard := none }) (v := ?_) rfl (Or.inl ⟨by rfl, ?_⟩) ?_; rotate_left; (focus (intro w hSw; (try dsimp only at hSw); go_simp; (try (with_reducible rfl)); done)); try simp only [Act.put, List.setIfInBounds_toArray, List.set_cons_zero, List.set_cons_succ]
          refine wpL_calm (o := { dst := some 39, op := Go.Op.load 9 (Go.Operand.tmp 38), type := 9, pos := "ref.go:31", after := #[{ on := 17, ground := Go.Ground.data }], guard := none }) (v := ?_) rfl (Or.inl ⟨by rfl, ?_⟩) ?_; rotate_left; (focus (intro w hSw; (try dsimp only at hSw); go_simp; (try (with_reducible rfl)); done)); try simp only [Act.put, List.setIfInBounds_toArray, List.set_cons_zero, List.set_cons_succ]
          refine wpL_loud1 (o := { dst := some 40, op := Go.Op.call { callee := Go.Callee.value (Go.Operand.func 36), args := #[Go.Operand.tmp 30, Go.Operand.tmp 35, Go.Operand.tmp 39], argTypes := #[59, 3, 9] }, type := 0, pos := "ref.go:31", after := #[{ on := 9, ground := Go.Ground.data }, { on := 14, ground := Go.Ground.data }, { on := 18, ground := Go.Ground.data }], guard := none }) rfl (fun K hK => ?_)
          (go_simp; go_at_call 36; refine (PT0.out _ HB2.out).mono ?_; rintro e w3 ⟨rfl, d3, k3⟩; have HQ := Lib.hid (HK0.out.1.dev0 d3 k3); clear d3 k3)
          try go_wp2_with fail
          refine hK.out _ _ ?_ (fun hHeld => ?_)
          · (try dsimp only); exact ⟨HQ.out.1.cells.1, by rw [← E8.out]; exact HQ.out.1.at8, by rw [← E9.out]; exact HQ.out.1.at9, by rw [← E10.out]; exact HQ.out.1.at10⟩
          clear hK K
          try simp only [Act.put, List.setIfInBounds_toArray, List.set_cons_zero, List.set_cons_succ]
          refine wpL_nil ?_
          refine NoPanic.normal ?_
          clear hHeld
          go_wp2_with fail
          all_goals
            go_meet
            exact ⟨rfl, Lib.hid ⟨_, HQ.out.1, HK0.out.2.trans HQ.out.2⟩⟩
        · rw [ha0] at q8
          have E8 := Lib.hid ha0
          clear hlt hi hb0 hb1 ha0 hs q2 q3 q4 q6 q7
          go_upto_region 5 with fail
          refine wp_region_lin_all (S := (fun w' => w'.cell? ⟨x, 1, none⟩ = some (.pointer (some ⟨g1, 0, none⟩)) ∧ w'.cell? ⟨x, 8, none⟩ = some (.int .i64 1) ∧ w'.cell? ⟨x, 9, none⟩ = some (.int .i64 (i : Int)) ∧ w'.cell? ⟨x, 10, none⟩ = some (.string s))) [(0, true), (1, true), (2, true), (3, true), (4, true), (5, true), (6, true), (7, true), (8, true), (9, true), (10, true), (11, true), (12, true), (13, true), (14, true), (15, true), (16, true), (17, true), (18, true), (19, false)] (by kernel_rfl) (by kernel_rfl) rfl (by kernel_rfl) ?_ (fun hHeld => ?_)
          · (try dsimp only); exact ⟨q1, q8, q9, q10⟩
          have HB2 : Hid (Below w1.heap.size w1 w1.drew) := Lib.hid (Below.refl _ _).drew
          generalize World.drew w1 = w2 at hHeld HB2 HK0 ⊢
          refine wpL_calm (o := { dst := some 21, op := Go.Op.move (Go.Operand.tmp 0), type := 27, pos := "ref.go:31", after := #[], guard := none }) (v := ?_) rfl (Or.inl ⟨by rfl, ?_⟩) ?_; rotate_left; (focus (intro w hSw; (try dsimp only at hSw); go_simp; (try (with_reducible rfl)); done)); try simp only [Act.put, List.setIfInBounds_toArray, List.set_cons_zero, List.set_cons_succ]
          refine wpL_calm (o := { dst := some 22, op := Go.Op.move (Go.Operand.tmp 0), type := 27, pos := "ref.go:31", after := #[], guard := none }) (v := ?_) rfl (Or.inl ⟨by rfl, ?_⟩) ?_; rotate_left; (focus (intro w hSw; (try dsimp only at hSw); go_simp; (try (with_reducible rfl)); done)); try simp only [Act.put, List.setIfInBounds_toArray, List.set_cons_zero, List.set_cons_succ]
          refine wpL_calm (o := { dst := some 23, op := Go.Op.nilCheck (Go.Operand.tmp 22), type := 0, pos := "ref.go:31", after := #[{ on := 1, ground := Go.Ground.data }], guard := none }) (v := ?_) rfl (Or.inl ⟨by rfl, ?_⟩) ?_; rotate_left; (focus (intro w hSw; (try dsimp only at hSw); go_simp; (try (with_reducible rfl)); done)); try simp only [Act.put, List.setIfInBounds_toArray, List.set_cons_zero, List.set_cons_succ]
          refine wpL_calm (o := { dst := some 24, op := Go.Op.fieldAddr 64 (Go.Operand.tmp 23) 7, type := 0, pos := "ref.go:31", after := #[{ on := 2, ground := Go.Ground.data }], guard := none }) (v := ?_) rfl (Or.inl ⟨by rfl, ?_⟩) ?_; rotate_left; (focus (intro w hSw; (try dsimp only at hSw); go_simp; (try (with_reducible rfl)); done)); try simp only [Act.put, List.setIfInBounds_toArray, List.set_cons_zero, List.set_cons_succ]
          refine wpL_calm (o := { dst := some 25, op := Go.Op.indexAddr 62 (Go.Operand.tmp 24) (Go.Operand.const (Go.Value.int Go.IntKind.i64 0)), type := 0, pos := "ref.go:31", after := #[{ on := 3, ground := Go.Ground.data }], guard := none }) (v := ?_) rfl (Or.inl ⟨by rfl, ?_⟩) ?_; rotate_left; (focus (intro w hSw; (try dsimp only at hSw); go_simp; (try (with_reducible rfl)); done)); try simp only [Act.put, List.setIfInBounds_toArray, List.set_cons_zero, List.set_cons_succ]
          refine wpL_calm (o := { dst := some 26, op := Go.Op.load 3 (Go.Operand.tmp 25), type := 3, pos := "ref.go:31", after := #[{ on := 4, ground := Go.Ground.data }], guard := none }) (v := ?_) rfl (Or.inl ⟨by rfl, ?_⟩) ?_; rotate_left; (focus (intro w hSw; (try dsimp only at hSw); go_simp; (try (with_reducible rfl)); done)); try simp only [Act.put, List.setIfInBounds_toArray, List.set_cons_zero, List.set_cons_succ]
          refine wpL_calm (o := { dst := some 27, op := Go.Op.nilCheck (Go.Operand.tmp 21), type := 0, pos := "ref.go:31", after := #[{ on := 0, ground := Go.Ground.data }], guard := none }) (v := ?_) rfl (Or.inl ⟨by rfl, ?_⟩) ?_; rotate_left; (focus (intro w hSw; (try dsimp only at hSw); go_simp; (try (with_reducible rfl)); done)); try simp only [Act.put, List.setIfInBounds_toArray, List.set_cons_zero, List.set_cons_succ]
          refine wpL_calm (o := { dst := some 28, op := Go.Op.fieldAddr 64 (Go.Operand.tmp 27) 0, type := 0, pos := "ref.go:31", after := #[{ on := 6, ground := Go.Ground.data }], guard := none }) (v := ?_) rfl (Or.inl ⟨by rfl, ?_⟩) ?_; rotate_left; (focus (intro w hSw; (try dsimp only at hSw); go_simp; (try (with_reducible rfl)); done)); try simp only [Act.put, List.setIfInBounds_toArray, List.set_cons_zero, List.set_cons_succ]
          refine wpL_calm (o := { dst := some 29, op := Go.Op.indexAddr 61 (Go.Operand.tmp 28) (Go.Operand.tmp 26), type := 0, pos := "ref.go:31", after := #[{ on := 7, ground := Go.Ground.data }, { on := 5, ground := Go.Ground.data }], guard := none }) (v := ?_) rfl (Or.inl ⟨by rfl, ?_⟩) ?_; rotate_left; (focus (intro w hSw; (try dsimp only at hSw); go_simp; (try (with_reducible rfl)); done)); try simp only [Act.put, List.setIfInBounds_toArray, List.set_cons_zero, List.set_cons_succ]
          refine wpL_calm (o := { dst := some 30, op := Go.Op.load 59 (Go.Operand.tmp 29), type := 59, pos := "ref.go:31", after := #[{ on := 8, ground := Go.Ground.data }], guard := none }) (v := ?_) rfl (Or.inl ⟨by rfl, ?_⟩) ?_; rotate_left; (focus (intro w hSw; (try dsimp only at hSw); go_simp; (try (with_reducible rfl)); done)); try simp only [Act.put, List.setIfInBounds_toArray, List.set_cons_zero, List.set_cons_succ]
          refine wpL_calm (o := { dst := some 31, op := Go.Op.move (Go.Operand.tmp 0), type := 27, pos := "ref.go:31", after := #[], guard := none }) (v := ?_) rfl (Or.inl ⟨by rfl, ?_⟩) ?_; rotate_left; (focus (intro w hSw; (try dsimp only at hSw); go_simp; (try (with_reducible rfl)); done)); try simp only [Act.put, List.setIfInBounds_toArray, List.set_cons_zero, List.set_cons_succ]
          refine wpL_calm (o := { dst := some 32, op := Go.Op.nilCheck (Go.Operand.tmp 31), type := 0, pos := "ref.go:31", after := #[{ on := 10, ground := Go.Ground.data }], guard := none }) (v := ?_) rfl (Or.inl ⟨by rfl, ?_⟩) ?_; rotate_left; (focus (intro w hSw; (try dsimp only at hSw); go_simp; (try (with_reducible rfl)); done)); try simp only [Act.put, List.setIfInBounds_toArray, List.set_cons_zero, List.set_cons_succ]
          refine wpL_calm (o := { dst := some 33, op := Go.Op.fieldAddr 64 (Go.Operand.tmp 32) 7, type := 0, pos := "ref.go:31", after := #[{ on := 11, ground := Go.Ground.data }], guard := none }) (v := ?_) rfl (Or.inl ⟨by rfl, ?_⟩) ?_; rotate_left; (focus (intro w hSw; (try dsimp only at hSw); go_simp; (try (with_reducible rfl)); done)); try simp only [Act.put, List.setIfInBounds_toArray, List.set_cons_zero, List.set_cons_succ]
          refine wpL_calm (o := { dst := some 34, op := Go.Op.indexAddr 62 (Go.Operand.tmp 33) (Go.Operand.const (Go.Value.int Go.IntKind.i64 1)), type := 0, pos := "ref.go:31", after := #[{ on := 12, ground := Go.Ground.data }], guard := none }) (v := ?_) rfl (Or.inl ⟨by rfl, ?_⟩) ?_; rotate_left; (focus (intro w hSw; (try dsimp only at hSw); go_simp; (try (with_reducible rfl)); done)); try simp only [Act.put, List.setIfInBounds_toArray, List.set_cons_zero, List.set_cons_succ]
          refine wpL_calm (o := { dst := some 35, op := Go.Op.load 3 (Go.Operand.tmp 34), type := 3, pos := "ref.go:31", after := #[{ on := 13, ground := Go.Ground.data }], guard := none }) (v := ?_) rfl (Or.inl ⟨by rfl, ?_⟩) ?_; rotate_left; (focus (intro w hSw; (try dsimp only at hSw); go_simp; (try (with_reducible rfl)); done)); try simp only [Act.put, List.setIfInBounds_toArray, List.set_cons_zero, List.set_cons_succ]
          refine wpL_calm (o := { dst := some 36, op := Go.Op.move (Go.Operand.tmp 0), type := 27, pos := "ref.go:31", after := #[], guard := none }) (v := ?_) rfl (Or.inl ⟨by rfl, ?_⟩) ?_; rotate_left; (focus (intro w hSw; (try dsimp only at hSw); go_simp; (try (with_reducible rfl)); done)); try simp only [Act.put, List.setIfInBounds_toArray, List.set_cons_zero, List.set_cons_succ]
          refine wpL_calm (o := { dst := some 37, op := Go.Op.nilCheck (Go.Operand.tmp 36), type := 0, pos := "ref.go:31", after := #[{ on := 15, ground := Go.Ground.data }], guard := none }) (v := ?_) rfl (Or.inl ⟨by rfl, ?_⟩) ?_; rotate_left; (focus (intro w hSw; (try dsimp only at hSw); go_simp; (try (with_reducible rfl)); done)); try simp only [Act.put, List.setIfInBounds_toArray, List.set_cons_zero, List.set_cons_succ]
          refine wpL_calm (o := { dst := some 38, op := Go.Op.fieldAddr 64 (Go.Operand.tmp 37) 8, type := 0, pos := "ref.go:31", after := #[{ on := 16, ground := Go.Ground.data }], guard := none }) (v := ?_) rfl (Or.inl ⟨by rfl, ?_⟩) ?_; rotate_left; (focus (intro w hSw; (try dsimp only at hSw); go_simp; (try (with_reducible rfl)); done)); try simp only [Act.put, List.setIfInBounds_toArray, List.set_cons_zero, List.set_cons_succ]
          refine wpL_calm (o := { dst := some 39, op := Go.Op.load 9 (Go.Operand.tmp 38), type := 9, pos := "ref.go:31", after := #[{ on := 17, ground := Go.Ground.data }], guard := none }) (v := ?_) rfl (Or.inl ⟨by rfl, ?_⟩) ?_; rotate_left; (focus (intro w hSw; (try dsimp only at hSw); go_simp; (try (with_reducible rfl)); done)); try simp only [Act.put, List.setIfInBounds_toArray, List.set_cons_zero, List.set_cons_succ]
          refine wpL_loud1 (o := { dst := some 40, op := Go.Op.call { callee := Go.Callee.value (Go.Operand.func 36), args := #[Go.Operand.tmp 30, Go.Operand.tmp 35, Go.Operand.tmp 39], argTypes := #[59, 3, 9] }, type := 0, pos := "ref.go:31", after := #[{ on := 9, ground := Go.Ground.data }, { on := 14, ground := Go.Ground.data }, { on := 18, ground := Go.Ground.data }], guard := none }) rfl (fun K hK => ?_)
          (go_simp; go_at_call 36; refine (PT1.out _ HB2.out).mono ?_; rintro e w3 ⟨rfl, d3, k3⟩; have HQ := Lib.hid (HK0.out.1.dev1 d3 k3); clear d3 k3)
          try go_wp2_with fail
          refine hK.out _ _ ?_ (fun hHeld => ?_)
          · (try dsimp only); exact ⟨HQ.out.1.cells.2.1, by rw [← E8.out]; exact HQ.out.1.at8, by rw [← E9.out]; exact HQ.out.1.at9, by rw [← E10.out]; exact HQ.out.1.at10⟩
          clear hK K
          try simp only [Act.put, List.setIfInBounds_toArray, List.set_cons_zero, List.set_cons_succ]
          refine wpL_nil ?_
          refine NoPanic.normal ?_
          clear hHeld
          go_wp2_with fail
          all_goals
            go_meet
            exact ⟨rfl, Lib.hid ⟨_, HQ.out.1, HK0.out.2.trans HQ.out.2⟩⟩
      · have hlt' : ¬ S1.lt = 1 := hlt
        have hb : (S1.lt == 1) = false := by simpa using hlt
        clear hlt q0 q1 q2 q3 q4 q6 q7 q8 q9 q10
        go_wp2_with fail
        go_meet
        exact ⟨rfl, HM1⟩
    case rest =>
    as_aux_lemma =>
    obtain ⟨rfl, HM2⟩ := hcut
    clear q0 q1 q2 q3 q4 q5 q6 q7 q8 q9 q10 HM1 HX1 HK1 hzz
    obtain ⟨S2, hX2, hK2⟩ := HM2.out
    have HX2 := Lib.hid hX2
    have HK2 := Lib.hid hK2
    clear HM2 hX2 hK2
    obtain ⟨q0, q1, q2, q3, q4, q5, q6, q7, q8, q9, q10⟩ := HX2.out.cells
    have f3 := HX2.out.free 3
    clear q0 q1 q2 q4 q5 q8 q9 q10
    go_upto_if 45 with fail
    go_cut [3] from 45 to 45 (fun s3 wx => ∃ z : Int, s3 = .int .i64 z ∧ Hid (wx = wc))
    case first =>
      by_cases h : S2.fa = 1
      · have hb : (S2.fa == 1) = true := by rw [h]; rfl
        clear h
        go_wp2_with fail
        all_goals
          go_meet
          exact ⟨_, rfl, Lib.hid rfl⟩
      · have hb : (S2.fa == 1) = false := by simpa using h
        clear h
        go_wp2_with fail
        all_goals
          go_meet
          exact ⟨_, rfl, Lib.hid rfl⟩
    case rest =>
    as_aux_lemma =>
    obtain ⟨z, rfl, hw⟩ := hcut
    obtain rfl := hw.out
    clear hw
    go_upto_if 50 with fail
    go_cut [3] from 50 to 53 (fun s3 wx => ∃ z : Int, s3 = .int .i64 z ∧ Hid (XMid B x g0 g1 w wx))
    case first =>
      by_cases h : S2.ar = 1
      · have hb : (S2.ar == 1) = true := by rw [h]; rfl
        clear h
        have HM3 : Hid (XMid B x g0 g1 w (wc.setCell ⟨x, 3, none⟩ (.bool true))) := Lib.hid ⟨{ S2 with dn := true }, HX2.out.set 3 _ rfl HX2.out.ok, HX2.out.kset HK2.out 3 _⟩
        go_wp2_with fail
        all_goals
          go_meet
          exact ⟨_, rfl, HM3⟩
      · have hb : (S2.ar == 1) = false := by simpa using h
        have HM3 : Hid (XMid B x g0 g1 w wc) := Lib.hid ⟨S2, HX2.out, HK2.out⟩
        clear h
        go_wp2_with fail
        all_goals
          go_meet
          exact ⟨_, rfl, HM3⟩
    case rest =>
    as_aux_lemma =>
    obtain ⟨z, rfl, HM3⟩ := hcut
    clear q3 q6 q7 f3 HX2 HK2
    obtain ⟨S3, hX3, hK3⟩ := HM3.out
    have HK3 := Lib.hid hK3
    have HX3 := Lib.hid hX3
    clear HM3 hX3 hK3
    obtain ⟨q0, q1, q2, q3, q4, q5, q6, q7, q8, q9, q10⟩ := HX3.out.cells
    have f5 := HX3.out.free 5
    have HX4 := Lib.hid (HX3.out.set 5 (.int .i64 (lessN S3.lt)) rfl HX3.out.ok.ok_less)
    have HK4 := Lib.hid (HX3.out.kset HK3.out 5 (.int .i64 (lessN S3.lt)))
    have PL := Lib.hid less_any
    clear q0 q1 q2 q3 q4 q6 q7 q8 q9 q10
    go_wp2_with fail
    refine (PL.out _ _).mono ?_
    rintro e w5 ⟨rfl, rfl⟩
    go_upto_region 13 with fail
    clear q5 f5 HX3 HK3
    generalize wc.setCell ⟨x, 5, none⟩ (.int .i64 (lessN S3.lt)) = w6 at *
    generalize lessN S3.lt = n3 at *
    generalize ({ S3 with lt := n3 } : XrS) = S4 at *
    obtain ⟨-, -, -, -, -, -, -, q7, -, -, -⟩ := HX4.out.cells
    have f7 := HX4.out.free 7
    have HX5 := Lib.hid (HX4.out.set 7 (.int .i64 (lessN S4.fa)) (T := { S4 with fa := lessN S4.fa }) rfl HX4.out.ok)
    have HK5 := Lib.hid (HX4.out.kset HK4.out 7 (.int .i64 (lessN S4.fa)))
    go_wp2_with fail
    refine (PL.out _ _).mono ?_
    rintro e w7 ⟨rfl, rfl⟩
    go_upto_region 14 with fail
    clear q7 f7 HX4 HK4
    generalize w6.setCell ⟨x, 7, none⟩ (.int .i64 (lessN S4.fa)) = w8 at *
    generalize lessN S4.fa = n4 at *
    generalize ({ S4 with fa := n4 } : XrS) = S5 at *
    obtain ⟨-, -, -, -, -, -, q6, -, -, -, -⟩ := HX5.out.cells
    have f6 := HX5.out.free 6
    have HX6 := Lib.hid (HX5.out.set 6 (.int .i64 (lessN S5.ar)) (T := { S5 with ar := lessN S5.ar }) rfl HX5.out.ok)
    have HK6 := Lib.hid (HX5.out.kset HK5.out 6 (.int .i64 (lessN S5.ar)))
    go_wp2_with fail
    refine (PL.out _ _).mono ?_
    rintro e w9 ⟨rfl, rfl⟩
    go_wp2_with fail
    go_ret
    exact ⟨_, _, rfl, HX6.out, HK6.out⟩
end Go.Proofs.Ytjmginkkjkbpoaa
