/- Package level: append. -/
import Derived.Test.YtfkepplpeakgmaaLvC
namespace Go.Proofs.Ytfkepplpeakgmaa
open Go.RowKit Go.Deep
set_option linter.unusedVariables false
set_option linter.unusedSimpArgs false
set_option maxRecDepth 100000 in
set_option maxHeartbeats 8000000 in
theorem append_any (B g : Nat) (F : Nat → Int) (i l : Nat) (w : World) (h : QAt w g F) (hB : B ≤ g) (hi : i < 16) (hl : l < 4) (hn : F (53 + l) = -1 ∨ ∃ y : Nat, F (53 + l) = (y : Int) ∧ y < 16) : Calls Try.prog 54 #[.pointer (some ⟨g, 0, none⟩), .int .i64 (i : Int), .int .i64 (l : Int)] w fun e w' => e = .returned (.tuple #[]) ∧ QAt w' g (apF F i l) ∧ Kq B [g] w w' := by
  have hi' : (i : Int) < 16 := by omega
  have hl' : (l : Int) < 4 := by omega
  have HQ := Lib.hid h.drew
  have HK : Hid (Kq B [g] w w.drew) := Lib.hid (Kq.refl _ _ _).drew
  have c0 := h.cell (53 + l) (by omega)
  have HN := Lib.hid hn
  obtain ⟨p, hp⟩ : ∃ p, Hid (F (53 + l) = p) := ⟨_, Lib.hid rfl⟩
  rw [hp.out] at c0 HN
  have HAP : Hid (apF F i l = su (if p = -1 then su (su (su (su F (1 + i) (l : Int)) (17 + i) p) (33 + i) (-1)) (49 + l) (i : Int) else su (su (su (su F (1 + i) (l : Int)) (17 + i) p) (33 + i) (-1)) (33 + p.toNat) (i : Int)) (53 + l) (i : Int)) := Lib.hid (by unfold apF; rw [hp.out])
  clear h hn
  go_enter Try.func54, Try.ntmps54
  go_upto_region 0 with fail
  refine wp_region_lin_all (S := (fun w' => w'.cell? ⟨g, 53 + l, none⟩ = some (.int .i64 p))) [(0, true), (1, true), (2, true), (3, true), (4, true), (5, true), (6, true), (7, true), (8, true), (9, true), (10, true), (11, true), (12, true), (13, true), (14, true), (15, true), (17, true), (18, true), (21, true), (22, true), (16, false), (19, true), (20, false), (23, true), (24, false)] (by kernel_rfl) (by kernel_rfl) rfl (by kernel_rfl) ?_ (fun hHeld => ?_)
  · (try dsimp only); exact c0
  generalize World.drew w = w1 at hHeld HQ HK ⊢
  refine wpL_calm (o := { dst := some 6, op := Go.Op.move (Go.Operand.tmp 0), type := 48, pos := "level.go:59", after := #[], guard := none }) (v := ?_) rfl (Or.inl ⟨by rfl, ?_⟩) ?_; rotate_left; (focus (intro w hSw; (try dsimp only at hSw); go_simp; (try (with_reducible rfl)); done)); try simp only [Act.put, List.setIfInBounds_toArray, List.set_cons_zero, List.set_cons_succ]
  refine wpL_calm (o := { dst := some 7, op := Go.Op.move (Go.Operand.tmp 1), type := 3, pos := "level.go:59", after := #[], guard := none }) (v := ?_) rfl (Or.inl ⟨by rfl, ?_⟩) ?_; rotate_left; (focus (intro w hSw; (try dsimp only at hSw); go_simp; (try (with_reducible rfl)); done)); try simp only [Act.put, List.setIfInBounds_toArray, List.set_cons_zero, List.set_cons_succ]
  refine wpL_calm (o := { dst := some 8, op := Go.Op.move (Go.Operand.tmp 0), type := 48, pos := "level.go:59", after := #[{ on := 16, ground := Go.Ground.gcOnly Go.Departure.lateStores }], guard := none }) (v := ?_) rfl (Or.inl ⟨by rfl, ?_⟩) ?_; rotate_left; (focus (intro w hSw; (try dsimp only at hSw); go_simp; (try (with_reducible rfl)); done)); try simp only [Act.put, List.setIfInBounds_toArray, List.set_cons_zero, List.set_cons_succ]
  refine wpL_calm (o := { dst := some 9, op := Go.Op.move (Go.Operand.tmp 1), type := 3, pos := "level.go:59", after := #[{ on := 16, ground := Go.Ground.gcOnly Go.Departure.lateStores }], guard := none }) (v := ?_) rfl (Or.inl ⟨by rfl, ?_⟩) ?_; rotate_left; (focus (intro w hSw; (try dsimp only at hSw); go_simp; (try (with_reducible rfl)); done)); try simp only [Act.put, List.setIfInBounds_toArray, List.set_cons_zero, List.set_cons_succ]
  refine wpL_calm (o := { dst := some 10, op := Go.Op.move (Go.Operand.tmp 0), type := 48, pos := "level.go:59", after := #[{ on := 20, ground := Go.Ground.gcOnly Go.Departure.lateStores }], guard := none }) (v := ?_) rfl (Or.inl ⟨by rfl, ?_⟩) ?_; rotate_left; (focus (intro w hSw; (try dsimp only at hSw); go_simp; (try (with_reducible rfl)); done)); try simp only [Act.put, List.setIfInBounds_toArray, List.set_cons_zero, List.set_cons_succ]
  refine wpL_calm (o := { dst := some 11, op := Go.Op.move (Go.Operand.tmp 1), type := 3, pos := "level.go:59", after := #[{ on := 20, ground := Go.Ground.gcOnly Go.Departure.lateStores }], guard := none }) (v := ?_) rfl (Or.inl ⟨by rfl, ?_⟩) ?_; rotate_left; (focus (intro w hSw; (try dsimp only at hSw); go_simp; (try (with_reducible rfl)); done)); try simp only [Act.put, List.setIfInBounds_toArray, List.set_cons_zero, List.set_cons_succ]
  refine wpL_calm (o := { dst := some 12, op := Go.Op.move (Go.Operand.tmp 2), type := 3, pos := "level.go:59", after := #[], guard := none }) (v := ?_) rfl (Or.inl ⟨by rfl, ?_⟩) ?_; rotate_left; (focus (intro w hSw; (try dsimp only at hSw); go_simp; (try (with_reducible rfl)); done)); try simp only [Act.put, List.setIfInBounds_toArray, List.set_cons_zero, List.set_cons_succ]
  refine wpL_calm (o := { dst := some 13, op := Go.Op.move (Go.Operand.tmp 0), type := 48, pos := "level.go:59", after := #[], guard := none }) (v := ?_) rfl (Or.inl ⟨by rfl, ?_⟩) ?_; rotate_left; (focus (intro w hSw; (try dsimp only at hSw); go_simp; (try (with_reducible rfl)); done)); try simp only [Act.put, List.setIfInBounds_toArray, List.set_cons_zero, List.set_cons_succ]
  refine wpL_calm (o := { dst := some 14, op := Go.Op.move (Go.Operand.tmp 2), type := 3, pos := "level.go:59", after := #[], guard := none }) (v := ?_) rfl (Or.inl ⟨by rfl, ?_⟩) ?_; rotate_left; (focus (intro w hSw; (try dsimp only at hSw); go_simp; (try (with_reducible rfl)); done)); try simp only [Act.put, List.setIfInBounds_toArray, List.set_cons_zero, List.set_cons_succ]
  refine wpL_calm (o := { dst := some 15, op := Go.Op.nilCheck (Go.Operand.tmp 13), type := 0, pos := "level.go:59", after := #[{ on := 7, ground := Go.Ground.data }], guard := none }) (v := ?_) rfl (Or.inl ⟨by rfl, ?_⟩) ?_; rotate_left; (focus (intro w hSw; (try dsimp only at hSw); go_simp; (try (with_reducible rfl)); done)); try simp only [Act.put, List.setIfInBounds_toArray, List.set_cons_zero, List.set_cons_succ]
  refine wpL_calm (o := { dst := some 16, op := Go.Op.fieldAddr 71 (Go.Operand.tmp 15) 5, type := 0, pos := "level.go:59", after := #[{ on := 9, ground := Go.Ground.data }], guard := none }) (v := ?_) rfl (Or.inl ⟨by rfl, ?_⟩) ?_; rotate_left; (focus (intro w hSw; (try dsimp only at hSw); go_simp; (try (with_reducible rfl)); done)); try simp only [Act.put, List.setIfInBounds_toArray, List.set_cons_zero, List.set_cons_succ]
  refine wpL_calm (o := { dst := some 17, op := Go.Op.indexAddr 49 (Go.Operand.tmp 16) (Go.Operand.tmp 14), type := 0, pos := "level.go:59", after := #[{ on := 10, ground := Go.Ground.data }, { on := 8, ground := Go.Ground.data }], guard := none }) (v := ?_) rfl (Or.inl ⟨by rfl, ?_⟩) ?_; rotate_left; (focus (intro w hSw; (try dsimp only at hSw); go_simp; (try (with_reducible rfl)); done)); try simp only [Act.put, List.setIfInBounds_toArray, List.set_cons_zero, List.set_cons_succ]
  refine wpL_calm (o := { dst := some 18, op := Go.Op.load 3 (Go.Operand.tmp 17), type := 3, pos := "level.go:59", after := #[{ on := 11, ground := Go.Ground.data }], guard := none }) (v := ?_) rfl (Or.inl ⟨by rfl, ?_⟩) ?_; rotate_left; (focus (intro w hSw; (try dsimp only at hSw); go_simp; (try (with_reducible rfl)); done)); try simp only [Act.put, List.setIfInBounds_toArray, List.set_cons_zero, List.set_cons_succ]
  refine wpL_calm (o := { dst := some 19, op := Go.Op.nilCheck (Go.Operand.tmp 6), type := 0, pos := "level.go:59", after := #[{ on := 0, ground := Go.Ground.data }], guard := none }) (v := ?_) rfl (Or.inl ⟨by rfl, ?_⟩) ?_; rotate_left; (focus (intro w hSw; (try dsimp only at hSw); go_simp; (try (with_reducible rfl)); done)); try simp only [Act.put, List.setIfInBounds_toArray, List.set_cons_zero, List.set_cons_succ]
  refine wpL_calm (o := { dst := some 20, op := Go.Op.fieldAddr 71 (Go.Operand.tmp 19) 1, type := 0, pos := "level.go:59", after := #[{ on := 13, ground := Go.Ground.data }], guard := none }) (v := ?_) rfl (Or.inl ⟨by rfl, ?_⟩) ?_; rotate_left; (focus (intro w hSw; (try dsimp only at hSw); go_simp; (try (with_reducible rfl)); done)); try simp only [Act.put, List.setIfInBounds_toArray, List.set_cons_zero, List.set_cons_succ]
  refine wpL_calm (o := { dst := some 21, op := Go.Op.indexAddr 69 (Go.Operand.tmp 20) (Go.Operand.tmp 7), type := 0, pos := "level.go:59", after := #[{ on := 14, ground := Go.Ground.data }, { on := 1, ground := Go.Ground.data }, { on := 0, ground := Go.Ground.phase }, { on := 1, ground := Go.Ground.phase }, { on := 2, ground := Go.Ground.textOnly Go.Departure.lateStores }, { on := 3, ground := Go.Ground.textOnly Go.Departure.lateStores }, { on := 4, ground := Go.Ground.textOnly Go.Departure.lateStores }, { on := 5, ground := Go.Ground.textOnly Go.Departure.lateStores }, { on := 6, ground := Go.Ground.phase }, { on := 7, ground := Go.Ground.textOnly Go.Departure.lateStores }, { on := 8, ground := Go.Ground.textOnly Go.Departure.lateStores }, { on := 9, ground := Go.Ground.textOnly Go.Departure.lateStoresUnsure }, { on := 10, ground := Go.Ground.textOnly Go.Departure.lateStoresUnsure }, { on := 11, ground := Go.Ground.textOnly Go.Departure.lateStoresUnsure }, { on := 12, ground := Go.Ground.phase }], guard := none }) (v := ?_) rfl (Or.inl ⟨by rfl, ?_⟩) ?_; rotate_left; (focus (intro w hSw; (try dsimp only at hSw); go_simp; (try (with_reducible rfl)); done)); try simp only [Act.put, List.setIfInBounds_toArray, List.set_cons_zero, List.set_cons_succ]
  refine wpL_calm (o := { dst := some 22, op := Go.Op.nilCheck (Go.Operand.tmp 8), type := 0, pos := "level.go:59", after := #[{ on := 2, ground := Go.Ground.data }], guard := none }) (v := ?_) rfl (Or.inl ⟨by rfl, ?_⟩) ?_; rotate_left; (focus (intro w hSw; (try dsimp only at hSw); go_simp; (try (with_reducible rfl)); done)); try simp only [Act.put, List.setIfInBounds_toArray, List.set_cons_zero, List.set_cons_succ]
  refine wpL_calm (o := { dst := some 23, op := Go.Op.fieldAddr 71 (Go.Operand.tmp 22) 2, type := 0, pos := "level.go:59", after := #[{ on := 17, ground := Go.Ground.data }], guard := none }) (v := ?_) rfl (Or.inl ⟨by rfl, ?_⟩) ?_; rotate_left; (focus (intro w hSw; (try dsimp only at hSw); go_simp; (try (with_reducible rfl)); done)); try simp only [Act.put, List.setIfInBounds_toArray, List.set_cons_zero, List.set_cons_succ]
  refine wpL_calm (o := { dst := some 25, op := Go.Op.nilCheck (Go.Operand.tmp 10), type := 0, pos := "level.go:59", after := #[{ on := 4, ground := Go.Ground.data }], guard := none }) (v := ?_) rfl (Or.inl ⟨by rfl, ?_⟩) ?_; rotate_left; (focus (intro w hSw; (try dsimp only at hSw); go_simp; (try (with_reducible rfl)); done)); try simp only [Act.put, List.setIfInBounds_toArray, List.set_cons_zero, List.set_cons_succ]
  refine wpL_calm (o := { dst := some 26, op := Go.Op.fieldAddr 71 (Go.Operand.tmp 25) 3, type := 0, pos := "level.go:59", after := #[{ on := 21, ground := Go.Ground.data }], guard := none }) (v := ?_) rfl (Or.inl ⟨by rfl, ?_⟩) ?_; rotate_left; (focus (intro w hSw; (try dsimp only at hSw); go_simp; (try (with_reducible rfl)); done)); try simp only [Act.put, List.setIfInBounds_toArray, List.set_cons_zero, List.set_cons_succ]
  refine wpL_loud1 (o := { dst := none, op := Go.Op.store 3 (Go.Operand.tmp 21) (Go.Operand.tmp 12), type := 0, pos := "level.go:59", after := #[{ on := 15, ground := Go.Ground.data }, { on := 6, ground := Go.Ground.data }, { on := 0, ground := Go.Ground.phase }, { on := 1, ground := Go.Ground.phase }, { on := 2, ground := Go.Ground.textOnly Go.Departure.lateStores }, { on := 3, ground := Go.Ground.textOnly Go.Departure.lateStores }, { on := 4, ground := Go.Ground.textOnly Go.Departure.lateStores }, { on := 5, ground := Go.Ground.textOnly Go.Departure.lateStores }, { on := 6, ground := Go.Ground.phase }, { on := 7, ground := Go.Ground.textOnly Go.Departure.lateStores }, { on := 8, ground := Go.Ground.textOnly Go.Departure.lateStores }, { on := 9, ground := Go.Ground.textOnly Go.Departure.lateStoresUnsure }, { on := 10, ground := Go.Ground.textOnly Go.Departure.lateStoresUnsure }, { on := 11, ground := Go.Ground.textOnly Go.Departure.lateStoresUnsure }, { on := 12, ground := Go.Ground.phase }], guard := none }) rfl (fun K hK => ?_)
  (have c1 := HQ.out.cell (1 + i) (by omega); have f1 := HQ.out.free (1 + i); go_simp)
  refine hK.out _ _ ?_ (fun hHeld => ?_)
  · (try dsimp only); exact (by have := (HQ.out.set (1 + i) (l : Int)).cell (53 + l) (by omega); rwa [su_ne _ _ (by omega), hp.out] at this)
  clear hK K
  try simp only [Act.put, List.setIfInBounds_toArray, List.set_cons_zero, List.set_cons_succ]
  have HQ2 := Lib.hid (HQ.out.set (1 + i) (l : Int)); have HK2 := Lib.hid (HK.out.setCell (1 + i) (.int .i64 (l : Int)) hB (by simp)); generalize w1.setCell ⟨g, 1 + i, none⟩ (.int .i64 (l : Int)) = w2 at hHeld HQ2 HK2 ⊢
  refine wpL_calm (o := { dst := some 24, op := Go.Op.indexAddr 69 (Go.Operand.tmp 23) (Go.Operand.tmp 9), type := 0, pos := "level.go:59", after := #[{ on := 18, ground := Go.Ground.data }, { on := 3, ground := Go.Ground.data }, { on := 0, ground := Go.Ground.phase }, { on := 1, ground := Go.Ground.phase }, { on := 2, ground := Go.Ground.phase }, { on := 3, ground := Go.Ground.phase }, { on := 4, ground := Go.Ground.textOnly Go.Departure.lateStores }, { on := 5, ground := Go.Ground.textOnly Go.Departure.lateStores }, { on := 6, ground := Go.Ground.phase }, { on := 7, ground := Go.Ground.phase }, { on := 8, ground := Go.Ground.phase }, { on := 9, ground := Go.Ground.phase }, { on := 10, ground := Go.Ground.phase }, { on := 11, ground := Go.Ground.phase }, { on := 12, ground := Go.Ground.phase }, { on := 13, ground := Go.Ground.phase }, { on := 14, ground := Go.Ground.phase }, { on := 15, ground := Go.Ground.phase }, { on := 16, ground := Go.Ground.phase }], guard := none }) (v := ?_) rfl (Or.inl ⟨by rfl, ?_⟩) ?_; rotate_left; (focus (intro w hSw; (try dsimp only at hSw); go_simp; (try (with_reducible rfl)); done)); try simp only [Act.put, List.setIfInBounds_toArray, List.set_cons_zero, List.set_cons_succ]
  refine wpL_loud1 (o := { dst := none, op := Go.Op.store 3 (Go.Operand.tmp 24) (Go.Operand.tmp 18), type := 0, pos := "level.go:59", after := #[{ on := 19, ground := Go.Ground.data }, { on := 12, ground := Go.Ground.data }, { on := 16, ground := Go.Ground.chain }, { on := 0, ground := Go.Ground.phase }, { on := 1, ground := Go.Ground.phase }, { on := 2, ground := Go.Ground.phase }, { on := 3, ground := Go.Ground.phase }, { on := 4, ground := Go.Ground.textOnly Go.Departure.lateStores }, { on := 5, ground := Go.Ground.textOnly Go.Departure.lateStores }, { on := 6, ground := Go.Ground.phase }, { on := 7, ground := Go.Ground.phase }, { on := 8, ground := Go.Ground.phase }, { on := 9, ground := Go.Ground.phase }, { on := 10, ground := Go.Ground.phase }, { on := 11, ground := Go.Ground.phase }, { on := 12, ground := Go.Ground.phase }, { on := 13, ground := Go.Ground.phase }, { on := 14, ground := Go.Ground.phase }, { on := 15, ground := Go.Ground.phase }, { on := 16, ground := Go.Ground.phase }], guard := none }) rfl (fun K hK => ?_)
  (have c2 := HQ2.out.cell (17 + i) (by omega); have f2 := HQ2.out.free (17 + i); go_simp)
  refine hK.out _ _ ?_ (fun hHeld => ?_)
  · (try dsimp only); exact (by have := (HQ2.out.set (17 + i) p).cell (53 + l) (by omega); rwa [su_ne _ _ (by omega), su_ne _ _ (by omega), hp.out] at this)
  clear hK K
  try simp only [Act.put, List.setIfInBounds_toArray, List.set_cons_zero, List.set_cons_succ]
  have HQ3 := Lib.hid (HQ2.out.set (17 + i) p); have HK3 := Lib.hid (HK2.out.setCell (17 + i) (.int .i64 p) hB (by simp)); generalize w2.setCell ⟨g, 17 + i, none⟩ (.int .i64 p) = w3 at hHeld HQ3 HK3 ⊢
  refine wpL_calm (o := { dst := some 27, op := Go.Op.indexAddr 69 (Go.Operand.tmp 26) (Go.Operand.tmp 11), type := 0, pos := "level.go:59", after := #[{ on := 22, ground := Go.Ground.data }, { on := 5, ground := Go.Ground.data }, { on := 0, ground := Go.Ground.phase }, { on := 1, ground := Go.Ground.phase }, { on := 2, ground := Go.Ground.phase }, { on := 3, ground := Go.Ground.phase }, { on := 4, ground := Go.Ground.phase }, { on := 5, ground := Go.Ground.phase }, { on := 6, ground := Go.Ground.phase }, { on := 7, ground := Go.Ground.phase }, { on := 8, ground := Go.Ground.phase }, { on := 9, ground := Go.Ground.phase }, { on := 10, ground := Go.Ground.phase }, { on := 11, ground := Go.Ground.phase }, { on := 12, ground := Go.Ground.phase }, { on := 13, ground := Go.Ground.phase }, { on := 14, ground := Go.Ground.phase }, { on := 15, ground := Go.Ground.phase }, { on := 16, ground := Go.Ground.phase }, { on := 17, ground := Go.Ground.phase }, { on := 18, ground := Go.Ground.phase }, { on := 19, ground := Go.Ground.phase }, { on := 20, ground := Go.Ground.phase }], guard := none }) (v := ?_) rfl (Or.inl ⟨by rfl, ?_⟩) ?_; rotate_left; (focus (intro w hSw; (try dsimp only at hSw); go_simp; (try (with_reducible rfl)); done)); try simp only [Act.put, List.setIfInBounds_toArray, List.set_cons_zero, List.set_cons_succ]
  refine wpL_loud1 (o := { dst := none, op := Go.Op.store 3 (Go.Operand.tmp 27) (Go.Operand.const (Go.Value.int Go.IntKind.i64 (-1))), type := 0, pos := "level.go:59", after := #[{ on := 23, ground := Go.Ground.data }, { on := 20, ground := Go.Ground.chain }, { on := 0, ground := Go.Ground.phase }, { on := 1, ground := Go.Ground.phase }, { on := 2, ground := Go.Ground.phase }, { on := 3, ground := Go.Ground.phase }, { on := 4, ground := Go.Ground.phase }, { on := 5, ground := Go.Ground.phase }, { on := 6, ground := Go.Ground.phase }, { on := 7, ground := Go.Ground.phase }, { on := 8, ground := Go.Ground.phase }, { on := 9, ground := Go.Ground.phase }, { on := 10, ground := Go.Ground.phase }, { on := 11, ground := Go.Ground.phase }, { on := 12, ground := Go.Ground.phase }, { on := 13, ground := Go.Ground.phase }, { on := 14, ground := Go.Ground.phase }, { on := 15, ground := Go.Ground.phase }, { on := 16, ground := Go.Ground.phase }, { on := 17, ground := Go.Ground.phase }, { on := 18, ground := Go.Ground.phase }, { on := 19, ground := Go.Ground.phase }, { on := 20, ground := Go.Ground.phase }], guard := none }) rfl (fun K hK => ?_)
  (have c3 := HQ3.out.cell (33 + i) (by omega); have f3 := HQ3.out.free (33 + i); go_simp)
  refine hK.out _ _ ?_ (fun hHeld => ?_)
  · (try dsimp only); exact (by have := (HQ3.out.set (33 + i) (-1)).cell (53 + l) (by omega); rwa [su_ne _ _ (by omega), su_ne _ _ (by omega), su_ne _ _ (by omega), hp.out] at this)
  clear hK K
  try simp only [Act.put, List.setIfInBounds_toArray, List.set_cons_zero, List.set_cons_succ]
  refine wpL_nil ?_
  refine NoPanic.normal ?_
  have HQ4 := Lib.hid (HQ3.out.set (33 + i) (-1))
  have HK4 := Lib.hid (HK3.out.setCell (33 + i) (.int .i64 (-1)) hB (by simp))
  clear c0 hHeld
  have c0 := HQ4.out.cell (53 + l) (by omega)
  rw [su_ne _ _ (by omega), su_ne _ _ (by omega), su_ne _ _ (by omega), hp.out] at c0
  generalize w3.setCell ⟨g, 33 + i, none⟩ (.int .i64 (-1)) = w4 at *
  have E0 : Hid (su (su (su F (1 + i) (l : Int)) (17 + i) p) (33 + i) (-1) (53 + l) = p) := Lib.hid (by rw [su_ne _ _ (by omega), su_ne _ _ (by omega), su_ne _ _ (by omega), hp.out])
  generalize su (su (su F (1 + i) (l : Int)) (17 + i) p) (33 + i) (-1) = F3 at *
  clear HQ HQ2 HQ3 HK HK2 HK3 c1 f1 c2 f2 c3 f3
  obtain ⟨F5, hF5⟩ : ∃ F5, Hid ((if p = -1 then su F3 (49 + l) (i : Int) else su F3 (33 + p.toNat) (i : Int)) = F5) := ⟨_, Lib.hid rfl⟩
  rw [hF5.out] at HAP
  have E1 : p = -1 → su F3 (49 + l) (i : Int) = F5 := fun e => by rw [← hF5.out, if_pos e]
  have E2 : ∀ y : Nat, p = (y : Int) → su F3 (33 + y) (i : Int) = F5 := fun y e => by rw [← hF5.out, if_neg (by omega), e, Int.toNat_natCast]
  clear hF5
  go_upto_if 34 with fail
  go_cut [] from 34 to 51 (fun wx => Hid (QAt wx g F5) ∧ Hid (Kq B [g] w wx))
  case first =>
    rcases HN.out with rfl | ⟨y, rfl, hy⟩
    · have c5 := HQ4.out.cell (49 + l) (by omega)
      have f5 := HQ4.out.free (49 + l)
      have HQ5 := Lib.hid (HQ4.out.set (49 + l) (i : Int))
      rw [E1 rfl] at HQ5
      clear E1 E2
      have HK5 := Lib.hid (HK4.out.setCell (49 + l) (.int .i64 (i : Int)) hB (by simp))
      go_wp2_with fail
      go_meet
      exact ⟨HQ5, HK5⟩
    · have hb : ((y : Int) == -1) = false := by simp
      have hy' : (y : Int) < 16 := by omega
      have E3 := Lib.hid (E2 y rfl)
      clear E1 E2
      have HQ5 := Lib.hid HQ4.out.drew
      have HK5 := Lib.hid HK4.out.drew
      go_upto_region 3 with fail
      refine wp_region_lin_all (S := (fun w' => w'.cell? ⟨g, 53 + l, none⟩ = some (.int .i64 (y : Int)))) [(0, true), (1, true), (2, true), (3, true), (4, true), (5, true), (6, true), (7, true), (8, true), (9, true), (10, true), (11, false)] (by kernel_rfl) (by kernel_rfl) rfl (by kernel_rfl) ?_ (fun hHeld => ?_)
      · (try dsimp only); exact c0
      generalize World.drew w4 = w5 at hHeld HQ5 HK5 ⊢
      refine wpL_calm (o := { dst := some 41, op := Go.Op.move (Go.Operand.tmp 0), type := 48, pos := "level.go:63", after := #[], guard := none }) (v := ?_) rfl (Or.inl ⟨by rfl, ?_⟩) ?_; rotate_left; (focus (intro w hSw; (try dsimp only at hSw); go_simp; (try (with_reducible rfl)); done)); try simp only [Act.put, List.setIfInBounds_toArray, List.set_cons_zero, List.set_cons_succ]
      refine wpL_calm (o := { dst := some 42, op := Go.Op.move (Go.Operand.tmp 0), type := 48, pos := "level.go:63", after := #[], guard := none }) (v := ?_) rfl (Or.inl ⟨by rfl, ?_⟩) ?_; rotate_left; (focus (intro w hSw; (try dsimp only at hSw); go_simp; (try (with_reducible rfl)); done)); try simp only [Act.put, List.setIfInBounds_toArray, List.set_cons_zero, List.set_cons_succ]
      refine wpL_calm (o := { dst := some 43, op := Go.Op.move (Go.Operand.tmp 2), type := 3, pos := "level.go:63", after := #[], guard := none }) (v := ?_) rfl (Or.inl ⟨by rfl, ?_⟩) ?_; rotate_left; (focus (intro w hSw; (try dsimp only at hSw); go_simp; (try (with_reducible rfl)); done)); try simp only [Act.put, List.setIfInBounds_toArray, List.set_cons_zero, List.set_cons_succ]
      refine wpL_calm (o := { dst := some 44, op := Go.Op.nilCheck (Go.Operand.tmp 42), type := 0, pos := "level.go:63", after := #[{ on := 1, ground := Go.Ground.data }], guard := none }) (v := ?_) rfl (Or.inl ⟨by rfl, ?_⟩) ?_; rotate_left; (focus (intro w hSw; (try dsimp only at hSw); go_simp; (try (with_reducible rfl)); done)); try simp only [Act.put, List.setIfInBounds_toArray, List.set_cons_zero, List.set_cons_succ]
      refine wpL_calm (o := { dst := some 45, op := Go.Op.fieldAddr 71 (Go.Operand.tmp 44) 5, type := 0, pos := "level.go:63", after := #[{ on := 3, ground := Go.Ground.data }], guard := none }) (v := ?_) rfl (Or.inl ⟨by rfl, ?_⟩) ?_; rotate_left; (focus (intro w hSw; (try dsimp only at hSw); go_simp; (try (with_reducible rfl)); done)); try simp only [Act.put, List.setIfInBounds_toArray, List.set_cons_zero, List.set_cons_succ]
      refine wpL_calm (o := { dst := some 46, op := Go.Op.indexAddr 49 (Go.Operand.tmp 45) (Go.Operand.tmp 43), type := 0, pos := "level.go:63", after := #[{ on := 4, ground := Go.Ground.data }, { on := 2, ground := Go.Ground.data }], guard := none }) (v := ?_) rfl (Or.inl ⟨by rfl, ?_⟩) ?_; rotate_left; (focus (intro w hSw; (try dsimp only at hSw); go_simp; (try (with_reducible rfl)); done)); try simp only [Act.put, List.setIfInBounds_toArray, List.set_cons_zero, List.set_cons_succ]
      refine wpL_calm (o := { dst := some 47, op := Go.Op.load 3 (Go.Operand.tmp 46), type := 3, pos := "level.go:63", after := #[{ on := 5, ground := Go.Ground.data }], guard := none }) (v := ?_) rfl (Or.inl ⟨by rfl, ?_⟩) ?_; rotate_left; (focus (intro w hSw; (try dsimp only at hSw); go_simp; (try (with_reducible rfl)); done)); try simp only [Act.put, List.setIfInBounds_toArray, List.set_cons_zero, List.set_cons_succ]
      refine wpL_calm (o := { dst := some 48, op := Go.Op.move (Go.Operand.tmp 1), type := 3, pos := "level.go:63", after := #[], guard := none }) (v := ?_) rfl (Or.inl ⟨by rfl, ?_⟩) ?_; rotate_left; (focus (intro w hSw; (try dsimp only at hSw); go_simp; (try (with_reducible rfl)); done)); try simp only [Act.put, List.setIfInBounds_toArray, List.set_cons_zero, List.set_cons_succ]
      refine wpL_calm (o := { dst := some 49, op := Go.Op.nilCheck (Go.Operand.tmp 41), type := 0, pos := "level.go:63", after := #[{ on := 0, ground := Go.Ground.data }], guard := none }) (v := ?_) rfl (Or.inl ⟨by rfl, ?_⟩) ?_; rotate_left; (focus (intro w hSw; (try dsimp only at hSw); go_simp; (try (with_reducible rfl)); done)); try simp only [Act.put, List.setIfInBounds_toArray, List.set_cons_zero, List.set_cons_succ]
      refine wpL_calm (o := { dst := some 50, op := Go.Op.fieldAddr 71 (Go.Operand.tmp 49) 3, type := 0, pos := "level.go:63", after := #[{ on := 8, ground := Go.Ground.data }], guard := none }) (v := ?_) rfl (Or.inl ⟨by rfl, ?_⟩) ?_; rotate_left; (focus (intro w hSw; (try dsimp only at hSw); go_simp; (try (with_reducible rfl)); done)); try simp only [Act.put, List.setIfInBounds_toArray, List.set_cons_zero, List.set_cons_succ]
      refine wpL_calm (o := { dst := some 51, op := Go.Op.indexAddr 69 (Go.Operand.tmp 50) (Go.Operand.tmp 47), type := 0, pos := "level.go:63", after := #[{ on := 9, ground := Go.Ground.data }, { on := 6, ground := Go.Ground.data }, { on := 0, ground := Go.Ground.phase }, { on := 1, ground := Go.Ground.phase }, { on := 2, ground := Go.Ground.phase }, { on := 3, ground := Go.Ground.phase }, { on := 4, ground := Go.Ground.phase }, { on := 5, ground := Go.Ground.phase }, { on := 6, ground := Go.Ground.phase }, { on := 7, ground := Go.Ground.phase }], guard := none }) (v := ?_) rfl (Or.inl ⟨by rfl, ?_⟩) ?_; rotate_left; (focus (intro w hSw; (try dsimp only at hSw); go_simp; (try (with_reducible rfl)); done)); try simp only [Act.put, List.setIfInBounds_toArray, List.set_cons_zero, List.set_cons_succ]
      refine wpL_loud1 (o := { dst := none, op := Go.Op.store 3 (Go.Operand.tmp 51) (Go.Operand.tmp 48), type := 0, pos := "level.go:63", after := #[{ on := 10, ground := Go.Ground.data }, { on := 7, ground := Go.Ground.data }, { on := 0, ground := Go.Ground.phase }, { on := 1, ground := Go.Ground.phase }, { on := 2, ground := Go.Ground.phase }, { on := 3, ground := Go.Ground.phase }, { on := 4, ground := Go.Ground.phase }, { on := 5, ground := Go.Ground.phase }, { on := 6, ground := Go.Ground.phase }, { on := 7, ground := Go.Ground.phase }], guard := none }) rfl (fun K hK => ?_)
      (have c1 := HQ5.out.cell (33 + y) (by omega); have f1 := HQ5.out.free (33 + y); go_simp)
      refine hK.out _ _ ?_ (fun hHeld => ?_)
      · (try dsimp only); exact (by have := (HQ5.out.set (33 + y) (i : Int)).cell (53 + l) (by omega); rwa [su_ne _ _ (by omega), E0.out] at this)
      clear hK K
      try simp only [Act.put, List.setIfInBounds_toArray, List.set_cons_zero, List.set_cons_succ]
      refine wpL_nil ?_
      refine NoPanic.normal ?_
      go_wp2_with fail
      go_meet
      exact ⟨Lib.hid (by have := HQ5.out.set (33 + y) (i : Int); rwa [E3.out] at this), Lib.hid (HK5.out.setCell (33 + y) (.int .i64 (i : Int)) hB (by simp))⟩
  case rest =>
  obtain ⟨HQ6, HK6⟩ := hcut
  clear HQ4 HK4 c0
  have c6 := HQ6.out.cell (53 + l) (by omega)
  have f6 := HQ6.out.free (53 + l)
  have HQ7 := Lib.hid (HQ6.out.set (53 + l) (i : Int))
  have HK7 := Lib.hid (HK6.out.setCell (53 + l) (.int .i64 (i : Int)) hB (by simp))
  rw [← HAP.out] at HQ7
  clear HQ6 HK6 HAP HN
  go_wp2_with fail
  go_end0
  exact ⟨rfl, HQ7.out, HK7.out⟩
end Go.Proofs.Ytfkepplpeakgmaa
