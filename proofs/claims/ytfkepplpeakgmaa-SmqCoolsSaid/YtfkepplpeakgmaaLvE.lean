/- Package level: take. -/
import Derived.Test.YtfkepplpeakgmaaLvD
namespace Go.Proofs.Ytfkepplpeakgmaa
open Go.RowKit Go.Deep
set_option linter.unusedVariables false
set_option linter.unusedSimpArgs false
theorem QAt.drewN {w : World} {g : Nat} {F : Nat → Int} (h : QAt w g F) (n : Nat) : QAt (w.drewN n) g F := h.block rfl
theorem Kq.drewN {B : Nat} {L : List Nat} (w : World) (n : Nat) : Kq B L w (w.drewN n) := ⟨⟨(Below.refl B w).os, (Below.refl B w).tape, (Below.refl B w).output, (Below.refl B w).size, (Below.refl B w).block⟩, fun _ _ _ => rfl⟩
set_option maxRecDepth 100000 in
set_option maxHeartbeats 8000000 in
theorem take_any (B g : Nat) (F : Nat → Int) (i l : Nat) (p q : Int) (w : World) (h : QAt w g F) (hB : B ≤ g) (hi : i < 16) (hl : l < 4) (h1 : F (1 + i) = (l : Int)) (h2 : F (17 + i) = p) (h3 : F (33 + i) = q) (hp : p = -1 ∨ ∃ y : Nat, p = (y : Int) ∧ y < 16) (hq : q = -1 ∨ ∃ y : Nat, q = (y : Int) ∧ y < 16) : Calls Try.prog 61 #[.pointer (some ⟨g, 0, none⟩), .int .i64 (i : Int)] w fun e w' => e = .returned (.tuple #[]) ∧ QAt w' g (tkF F i l p q) ∧ Kq B [g] w w' := by
  have hi' : (i : Int) < 16 := by omega
  have hl' : (l : Int) < 4 := by omega
  have c1 := h.cell (1 + i) (by omega)
  have c2 := h.cell (17 + i) (by omega)
  have c3 := h.cell (33 + i) (by omega)
  rw [h1] at c1
  rw [h2] at c2
  rw [h3] at c3
  have HQ := Lib.hid h
  have HP := Lib.hid hp
  have HQQ := Lib.hid hq
  clear h h1 h2 h3 hp hq
  obtain ⟨G, hG⟩ : ∃ G, Hid ((if p = -1 then su F (49 + l) q else su F (33 + p.toNat) q) = G) := ⟨_, Lib.hid rfl⟩
  obtain ⟨H, hH⟩ : ∃ H, Hid ((if q = -1 then su G (53 + l) p else su G (17 + q.toNat) p) = H) := ⟨_, Lib.hid rfl⟩
  have HAP : Hid (tkF F i l p q = su (su (su H (1 + i) (-1)) (17 + i) (-1)) (33 + i) (-1)) := Lib.hid (by unfold tkF; rw [hG.out, hH.out])
  have EG1 : p = -1 → su F (49 + l) q = G := fun e => by rw [← hG.out, if_pos e]
  have EG2 : ∀ y : Nat, p = (y : Int) → su F (33 + y) q = G := fun y e => by rw [← hG.out, if_neg (by omega), e, Int.toNat_natCast]
  have EH1 : q = -1 → su G (53 + l) p = H := fun e => by rw [← hH.out, if_pos e]
  have EH2 : ∀ y : Nat, q = (y : Int) → su G (17 + y) p = H := fun y e => by rw [← hH.out, if_neg (by omega), e, Int.toNat_natCast]
  have EG1 := Lib.hid EG1
  have EG2 := Lib.hid EG2
  have EH1 := Lib.hid EH1
  have EH2 := Lib.hid EH2
  clear hG hH
  go_enter Try.func61, Try.ntmps61
  go_upto_region 0 with fail
  go_cut [4, 5, 6] from 7 to 24 (fun s4 s5 s6 wx => s4 = .int .i64 (l : Int) ∧ s5 = .int .i64 p ∧ s6 = .int .i64 q ∧ Hid (∃ d, w.drewN d = wx))
  case first =>
    go_quiet (fail)
    go_wp2_with fail
    go_meet
    exact ⟨rfl, rfl, rfl, Lib.hid ⟨_, rfl⟩⟩
  case rest =>
  obtain ⟨rfl, rfl, rfl, hd⟩ := hcut
  have HQ1 : Hid (QAt wc g F) := Lib.hid (by obtain ⟨d, rfl⟩ := hd.out; exact HQ.out.drewN d)
  have HK1 : Hid (Kq B [g] w wc) := Lib.hid (by obtain ⟨d, rfl⟩ := hd.out; exact Kq.drewN w d)
  clear hd HQ c1 c2 c3
  go_upto_if 26 with fail
  go_cut [] from 26 to 38 (fun wx => Hid (QAt wx g G) ∧ Hid (Kq B [g] w wx))
  case first =>
    rcases HP.out with rfl | ⟨y, rfl, hy⟩
    · have c5 := HQ1.out.cell (49 + l) (by omega)
      have f5 := HQ1.out.free (49 + l)
      have HQ5 := Lib.hid (HQ1.out.set (49 + l) q)
      have HK5 := Lib.hid (HK1.out.setCell (49 + l) (.int .i64 q) hB (by simp))
      rw [EG1.out rfl] at HQ5
      clear EG1 EG2 EH1 EH2 HAP HP HQQ
      go_wp2_with fail
      go_meet
      exact ⟨HQ5, HK5⟩
    · have c5 := HQ1.out.cell (33 + y) (by omega)
      have f5 := HQ1.out.free (33 + y)
      have HQ5 := Lib.hid (HQ1.out.set (33 + y) q)
      have HK5 := Lib.hid (HK1.out.setCell (33 + y) (.int .i64 q) hB (by simp))
      rw [EG2.out y rfl] at HQ5
      have hb : ((y : Int) == -1) = false := by simp
      have hy' : (y : Int) < 16 := by omega
      clear EG1 EG2 EH1 EH2 HAP HP HQQ
      go_wp2_with fail
      go_meet
      exact ⟨HQ5, HK5⟩
  case rest =>
  obtain ⟨HQ2, HK2⟩ := hcut
  clear HQ1 HK1 EG1 EG2
  go_upto_if 40 with fail
  go_cut [] from 40 to 52 (fun wx => Hid (QAt wx g H) ∧ Hid (Kq B [g] w wx))
  case first =>
    rcases HQQ.out with rfl | ⟨y, rfl, hy⟩
    · have c5 := HQ2.out.cell (53 + l) (by omega)
      have f5 := HQ2.out.free (53 + l)
      have HQ5 := Lib.hid (HQ2.out.set (53 + l) p)
      have HK5 := Lib.hid (HK2.out.setCell (53 + l) (.int .i64 p) hB (by simp))
      rw [EH1.out rfl] at HQ5
      clear EH1 EH2 HAP HP HQQ
      go_wp2_with fail
      go_meet
      exact ⟨HQ5, HK5⟩
    · have c5 := HQ2.out.cell (17 + y) (by omega)
      have f5 := HQ2.out.free (17 + y)
      have HQ5 := Lib.hid (HQ2.out.set (17 + y) p)
      have HK5 := Lib.hid (HK2.out.setCell (17 + y) (.int .i64 p) hB (by simp))
      rw [EH2.out y rfl] at HQ5
      have hb : ((y : Int) == -1) = false := by simp
      have hy' : (y : Int) < 16 := by omega
      clear EH1 EH2 HAP HP HQQ
      go_wp2_with fail
      go_meet
      exact ⟨HQ5, HK5⟩
  case rest =>
  obtain ⟨HQ3, HK3⟩ := hcut
  clear HQ2 HK2 EH1 EH2 HP HQQ
  have HQ4 := Lib.hid HQ3.out.drew
  have HK4 := Lib.hid HK3.out.drew
  clear HQ3 HK3
  go_upto_region 7 with fail
  refine wp_region_lin_all (S := (fun _ => True)) [(0, true), (1, true), (2, true), (3, true), (4, true), (5, true), (6, true), (7, true), (8, true), (10, true), (11, true), (14, true), (15, true), (9, false), (12, true), (13, false), (16, true), (17, false)] (by kernel_rfl) (by kernel_rfl) rfl (by kernel_rfl) ?_ (fun hHeld => ?_)
  · (try dsimp only); try exact trivial
  generalize World.drew wc = w5 at hHeld HQ4 HK4 ⊢
  refine wpL_calm (o := { dst := some 53, op := Go.Op.move (Go.Operand.tmp 0), type := 48, pos := "level.go:81", after := #[], guard := none }) (v := ?_) rfl (Or.inl ⟨by rfl, ?_⟩) ?_; rotate_left; (focus (intro w hSw; (try dsimp only at hSw); go_simp; (try (with_reducible rfl)); done)); try simp only [Act.put, List.setIfInBounds_toArray, List.set_cons_zero, List.set_cons_succ]
  refine wpL_calm (o := { dst := some 54, op := Go.Op.move (Go.Operand.tmp 1), type := 3, pos := "level.go:81", after := #[], guard := none }) (v := ?_) rfl (Or.inl ⟨by rfl, ?_⟩) ?_; rotate_left; (focus (intro w hSw; (try dsimp only at hSw); go_simp; (try (with_reducible rfl)); done)); try simp only [Act.put, List.setIfInBounds_toArray, List.set_cons_zero, List.set_cons_succ]
  refine wpL_calm (o := { dst := some 55, op := Go.Op.move (Go.Operand.tmp 0), type := 48, pos := "level.go:81", after := #[{ on := 9, ground := Go.Ground.gcOnly Go.Departure.lateStores }], guard := none }) (v := ?_) rfl (Or.inl ⟨by rfl, ?_⟩) ?_; rotate_left; (focus (intro w hSw; (try dsimp only at hSw); go_simp; (try (with_reducible rfl)); done)); try simp only [Act.put, List.setIfInBounds_toArray, List.set_cons_zero, List.set_cons_succ]
  refine wpL_calm (o := { dst := some 56, op := Go.Op.move (Go.Operand.tmp 1), type := 3, pos := "level.go:81", after := #[{ on := 9, ground := Go.Ground.gcOnly Go.Departure.lateStores }], guard := none }) (v := ?_) rfl (Or.inl ⟨by rfl, ?_⟩) ?_; rotate_left; (focus (intro w hSw; (try dsimp only at hSw); go_simp; (try (with_reducible rfl)); done)); try simp only [Act.put, List.setIfInBounds_toArray, List.set_cons_zero, List.set_cons_succ]
  refine wpL_calm (o := { dst := some 57, op := Go.Op.move (Go.Operand.tmp 0), type := 48, pos := "level.go:81", after := #[{ on := 13, ground := Go.Ground.gcOnly Go.Departure.lateStores }], guard := none }) (v := ?_) rfl (Or.inl ⟨by rfl, ?_⟩) ?_; rotate_left; (focus (intro w hSw; (try dsimp only at hSw); go_simp; (try (with_reducible rfl)); done)); try simp only [Act.put, List.setIfInBounds_toArray, List.set_cons_zero, List.set_cons_succ]
  refine wpL_calm (o := { dst := some 58, op := Go.Op.move (Go.Operand.tmp 1), type := 3, pos := "level.go:81", after := #[{ on := 13, ground := Go.Ground.gcOnly Go.Departure.lateStores }], guard := none }) (v := ?_) rfl (Or.inl ⟨by rfl, ?_⟩) ?_; rotate_left; (focus (intro w hSw; (try dsimp only at hSw); go_simp; (try (with_reducible rfl)); done)); try simp only [Act.put, List.setIfInBounds_toArray, List.set_cons_zero, List.set_cons_succ]
  refine wpL_calm (o := { dst := some 59, op := Go.Op.nilCheck (Go.Operand.tmp 53), type := 0, pos := "level.go:81", after := #[{ on := 0, ground := Go.Ground.data }], guard := none }) (v := ?_) rfl (Or.inl ⟨by rfl, ?_⟩) ?_; rotate_left; (focus (intro w hSw; (try dsimp only at hSw); go_simp; (try (with_reducible rfl)); done)); try simp only [Act.put, List.setIfInBounds_toArray, List.set_cons_zero, List.set_cons_succ]
  refine wpL_calm (o := { dst := some 60, op := Go.Op.fieldAddr 71 (Go.Operand.tmp 59) 1, type := 0, pos := "level.go:81", after := #[{ on := 6, ground := Go.Ground.data }], guard := none }) (v := ?_) rfl (Or.inl ⟨by rfl, ?_⟩) ?_; rotate_left; (focus (intro w hSw; (try dsimp only at hSw); go_simp; (try (with_reducible rfl)); done)); try simp only [Act.put, List.setIfInBounds_toArray, List.set_cons_zero, List.set_cons_succ]
  refine wpL_calm (o := { dst := some 61, op := Go.Op.indexAddr 69 (Go.Operand.tmp 60) (Go.Operand.tmp 54), type := 0, pos := "level.go:81", after := #[{ on := 7, ground := Go.Ground.data }, { on := 1, ground := Go.Ground.data }, { on := 0, ground := Go.Ground.phase }, { on := 1, ground := Go.Ground.phase }, { on := 2, ground := Go.Ground.textOnly Go.Departure.lateStores }, { on := 3, ground := Go.Ground.textOnly Go.Departure.lateStores }, { on := 4, ground := Go.Ground.textOnly Go.Departure.lateStores }, { on := 5, ground := Go.Ground.textOnly Go.Departure.lateStores }], guard := none }) (v := ?_) rfl (Or.inl ⟨by rfl, ?_⟩) ?_; rotate_left; (focus (intro w hSw; (try dsimp only at hSw); go_simp; (try (with_reducible rfl)); done)); try simp only [Act.put, List.setIfInBounds_toArray, List.set_cons_zero, List.set_cons_succ]
  refine wpL_calm (o := { dst := some 62, op := Go.Op.nilCheck (Go.Operand.tmp 55), type := 0, pos := "level.go:81", after := #[{ on := 2, ground := Go.Ground.data }], guard := none }) (v := ?_) rfl (Or.inl ⟨by rfl, ?_⟩) ?_; rotate_left; (focus (intro w hSw; (try dsimp only at hSw); go_simp; (try (with_reducible rfl)); done)); try simp only [Act.put, List.setIfInBounds_toArray, List.set_cons_zero, List.set_cons_succ]
  refine wpL_calm (o := { dst := some 63, op := Go.Op.fieldAddr 71 (Go.Operand.tmp 62) 2, type := 0, pos := "level.go:81", after := #[{ on := 10, ground := Go.Ground.data }], guard := none }) (v := ?_) rfl (Or.inl ⟨by rfl, ?_⟩) ?_; rotate_left; (focus (intro w hSw; (try dsimp only at hSw); go_simp; (try (with_reducible rfl)); done)); try simp only [Act.put, List.setIfInBounds_toArray, List.set_cons_zero, List.set_cons_succ]
  refine wpL_calm (o := { dst := some 65, op := Go.Op.nilCheck (Go.Operand.tmp 57), type := 0, pos := "level.go:81", after := #[{ on := 4, ground := Go.Ground.data }], guard := none }) (v := ?_) rfl (Or.inl ⟨by rfl, ?_⟩) ?_; rotate_left; (focus (intro w hSw; (try dsimp only at hSw); go_simp; (try (with_reducible rfl)); done)); try simp only [Act.put, List.setIfInBounds_toArray, List.set_cons_zero, List.set_cons_succ]
  refine wpL_calm (o := { dst := some 66, op := Go.Op.fieldAddr 71 (Go.Operand.tmp 65) 3, type := 0, pos := "level.go:81", after := #[{ on := 14, ground := Go.Ground.data }], guard := none }) (v := ?_) rfl (Or.inl ⟨by rfl, ?_⟩) ?_; rotate_left; (focus (intro w hSw; (try dsimp only at hSw); go_simp; (try (with_reducible rfl)); done)); try simp only [Act.put, List.setIfInBounds_toArray, List.set_cons_zero, List.set_cons_succ]
  refine wpL_loud1 (o := { dst := none, op := Go.Op.store 3 (Go.Operand.tmp 61) (Go.Operand.const (Go.Value.int Go.IntKind.i64 (-1))), type := 0, pos := "level.go:81", after := #[{ on := 8, ground := Go.Ground.data }, { on := 0, ground := Go.Ground.phase }, { on := 1, ground := Go.Ground.phase }, { on := 2, ground := Go.Ground.textOnly Go.Departure.lateStores }, { on := 3, ground := Go.Ground.textOnly Go.Departure.lateStores }, { on := 4, ground := Go.Ground.textOnly Go.Departure.lateStores }, { on := 5, ground := Go.Ground.textOnly Go.Departure.lateStores }], guard := none }) rfl (fun K hK => ?_)
  (have c1 := HQ4.out.cell (1 + i) (by omega); have f1 := HQ4.out.free (1 + i); go_simp)
  refine hK.out _ _ ?_ (fun hHeld => ?_)
  · (try dsimp only); try trivial
  clear hK K
  try simp only [Act.put, List.setIfInBounds_toArray, List.set_cons_zero, List.set_cons_succ]
  have HQ5 := Lib.hid (HQ4.out.set (1 + i) (-1)); have HK5 := Lib.hid (HK4.out.setCell (1 + i) (.int .i64 (-1)) hB (by simp)); generalize w5.setCell ⟨g, 1 + i, none⟩ (.int .i64 (-1)) = w6 at HQ5 HK5 ⊢
  refine wpL_calm (o := { dst := some 64, op := Go.Op.indexAddr 69 (Go.Operand.tmp 63) (Go.Operand.tmp 56), type := 0, pos := "level.go:81", after := #[{ on := 11, ground := Go.Ground.data }, { on := 3, ground := Go.Ground.data }, { on := 0, ground := Go.Ground.phase }, { on := 1, ground := Go.Ground.phase }, { on := 2, ground := Go.Ground.phase }, { on := 3, ground := Go.Ground.phase }, { on := 4, ground := Go.Ground.textOnly Go.Departure.lateStores }, { on := 5, ground := Go.Ground.textOnly Go.Departure.lateStores }, { on := 6, ground := Go.Ground.phase }, { on := 7, ground := Go.Ground.phase }, { on := 8, ground := Go.Ground.phase }, { on := 9, ground := Go.Ground.phase }], guard := none }) (v := ?_) rfl (Or.inl ⟨by rfl, ?_⟩) ?_; rotate_left; (focus (intro w hSw; (try dsimp only at hSw); go_simp; (try (with_reducible rfl)); done)); try simp only [Act.put, List.setIfInBounds_toArray, List.set_cons_zero, List.set_cons_succ]
  refine wpL_loud1 (o := { dst := none, op := Go.Op.store 3 (Go.Operand.tmp 64) (Go.Operand.const (Go.Value.int Go.IntKind.i64 (-1))), type := 0, pos := "level.go:81", after := #[{ on := 12, ground := Go.Ground.data }, { on := 9, ground := Go.Ground.chain }, { on := 0, ground := Go.Ground.phase }, { on := 1, ground := Go.Ground.phase }, { on := 2, ground := Go.Ground.phase }, { on := 3, ground := Go.Ground.phase }, { on := 4, ground := Go.Ground.textOnly Go.Departure.lateStores }, { on := 5, ground := Go.Ground.textOnly Go.Departure.lateStores }, { on := 6, ground := Go.Ground.phase }, { on := 7, ground := Go.Ground.phase }, { on := 8, ground := Go.Ground.phase }, { on := 9, ground := Go.Ground.phase }], guard := none }) rfl (fun K hK => ?_)
  (have c2 := HQ5.out.cell (17 + i) (by omega); have f2 := HQ5.out.free (17 + i); go_simp)
  refine hK.out _ _ ?_ (fun hHeld => ?_)
  · (try dsimp only); try trivial
  clear hK K
  try simp only [Act.put, List.setIfInBounds_toArray, List.set_cons_zero, List.set_cons_succ]
  have HQ6 := Lib.hid (HQ5.out.set (17 + i) (-1)); have HK6 := Lib.hid (HK5.out.setCell (17 + i) (.int .i64 (-1)) hB (by simp)); generalize w6.setCell ⟨g, 17 + i, none⟩ (.int .i64 (-1)) = w7 at HQ6 HK6 ⊢
  refine wpL_calm (o := { dst := some 67, op := Go.Op.indexAddr 69 (Go.Operand.tmp 66) (Go.Operand.tmp 58), type := 0, pos := "level.go:81", after := #[{ on := 15, ground := Go.Ground.data }, { on := 5, ground := Go.Ground.data }, { on := 0, ground := Go.Ground.phase }, { on := 1, ground := Go.Ground.phase }, { on := 2, ground := Go.Ground.phase }, { on := 3, ground := Go.Ground.phase }, { on := 4, ground := Go.Ground.phase }, { on := 5, ground := Go.Ground.phase }, { on := 6, ground := Go.Ground.phase }, { on := 7, ground := Go.Ground.phase }, { on := 8, ground := Go.Ground.phase }, { on := 9, ground := Go.Ground.phase }, { on := 10, ground := Go.Ground.phase }, { on := 11, ground := Go.Ground.phase }, { on := 12, ground := Go.Ground.phase }, { on := 13, ground := Go.Ground.phase }], guard := none }) (v := ?_) rfl (Or.inl ⟨by rfl, ?_⟩) ?_; rotate_left; (focus (intro w hSw; (try dsimp only at hSw); go_simp; (try (with_reducible rfl)); done)); try simp only [Act.put, List.setIfInBounds_toArray, List.set_cons_zero, List.set_cons_succ]
  refine wpL_loud1 (o := { dst := none, op := Go.Op.store 3 (Go.Operand.tmp 67) (Go.Operand.const (Go.Value.int Go.IntKind.i64 (-1))), type := 0, pos := "level.go:81", after := #[{ on := 16, ground := Go.Ground.data }, { on := 13, ground := Go.Ground.chain }, { on := 0, ground := Go.Ground.phase }, { on := 1, ground := Go.Ground.phase }, { on := 2, ground := Go.Ground.phase }, { on := 3, ground := Go.Ground.phase }, { on := 4, ground := Go.Ground.phase }, { on := 5, ground := Go.Ground.phase }, { on := 6, ground := Go.Ground.phase }, { on := 7, ground := Go.Ground.phase }, { on := 8, ground := Go.Ground.phase }, { on := 9, ground := Go.Ground.phase }, { on := 10, ground := Go.Ground.phase }, { on := 11, ground := Go.Ground.phase }, { on := 12, ground := Go.Ground.phase }, { on := 13, ground := Go.Ground.phase }], guard := none }) rfl (fun K hK => ?_)
  (have c3 := HQ6.out.cell (33 + i) (by omega); have f3 := HQ6.out.free (33 + i); go_simp)
  refine hK.out _ _ ?_ (fun hHeld => ?_)
  · (try dsimp only); try trivial
  clear hK K
  try simp only [Act.put, List.setIfInBounds_toArray, List.set_cons_zero, List.set_cons_succ]
  refine wpL_nil ?_
  refine NoPanic.normal ?_
  go_wp2_with fail
  go_end0
  exact ⟨rfl, by have := HQ6.out.set (33 + i) (-1); rwa [← HAP.out] at this, HK6.out.setCell (33 + i) (.int .i64 (-1)) hB (by simp)⟩
end Go.Proofs.Ytfkepplpeakgmaa
