/- Both rigs: the law's do, Flush and Tamper. -/
import Derived.Test.YtjmginkkjkbpoaaRwP
namespace Go.Proofs.Ytjmginkkjkbpoaa
open Go.RowKit Go.Deep
set_option linter.unusedVariables false
set_option linter.unusedSimpArgs false
set_option maxRecDepth 100000 in
set_option maxHeartbeats 8000000 in
theorem do5_any (B C : Nat) (p : RgP) (last : ByteArray) (cs x g0 g1 : Nat) (d i m : Int) (s : ByteArray) (raw : Bool) (x0 x1 x2 y0 y1 y2 : Value) (w : World) (h : Bo B C w p last cs x g0 g1) (hc : cs ≤ 1000) : Calls Try.prog 12 #[.pointer (some ⟨p.R, 0, none⟩), .pointer (some ⟨x, 0, none⟩), .agg #[.int .i64 5, .int .i64 d, .int .i64 i, .int .i64 m, .string s, .bool raw, x0, x1, x2, y0, y1, y2]] w fun e w' => DoP B C p last (cs + 1) x g0 g1 w e w' := by
  obtain ⟨w1, a, HW, HA, HX⟩ := ax_start h #[.int .i64 5, .int .i64 d, .int .i64 i, .int .i64 m, .string s, .bool raw, x0, x1, x2, y0, y1, y2]
  clear h
  have q0 : w1.cell? ⟨a, 0, none⟩ = some (.int .i64 5) := cell_of_row _ _ 0 _ _ _ HX.out.row
  have q1 : w1.cell? ⟨a, 1, none⟩ = some (.int .i64 d) := cell_of_row _ _ 1 _ _ _ HX.out.row
  go_enter Try.func12, Try.ntmps12
  go_upto_region 1 with fail
  rw [HW.out, HA.out]
  clear HW HA
  go_upto_region 7 with fail
  go_wp2_with fail
  refine (gFlush d HX.out.bo.rg HX.out.bo.bw hc).mono ?_
  rintro e w2 ⟨z, rfl, r2, k2⟩
  have HX2 := Lib.hid (HX.out.rig r2 k2)
  clear r2 k2 HX q0 q1
  have q1 : w2.cell? ⟨a, 1, none⟩ = some (.int .i64 d) := cell_of_row _ _ 1 _ _ _ HX2.out.row
  by_cases h0 : d < 0
  · go_wp2_with fail
    go_ret
    exact HX2.out.fin _
  · by_cases h1 : 1 < d
    · go_wp2_with fail
      go_ret
      exact HX2.out.fin _
    · have hd : d = 0 ∨ d = 1 := by omega
      go_wp2_with fail
      refine (HX2.out.step).mono ?_
      rintro e w5 ⟨z5, rfl, x5⟩
      have HX5 := Lib.hid x5
      clear x5 HX2 q1 h0 h1
      go_upto_if 40 with fail
      go_cut [] from 40 to 48 (fun wx => Hid (Ax B C w wx p last (cs + 1) x g0 g1 a #[.int .i64 5, .int .i64 d, .int .i64 i, .int .i64 m, .string s, .bool raw, x0, x1, x2, y0, y1, y2]))
      case first =>
        by_cases hz : z5 = 0
        · subst hz
          rcases hd with rfl | rfl
          · have HX6 := Lib.hid HX5.out.drew
            have q1 : w5.cell? ⟨a, 1, none⟩ = some (.int .i64 0) := cell_of_row _ _ 1 _ _ _ HX5.out.row
            have q3 := HX5.out.dat.2.2.1
            go_upto_region 12 with fail
            clear HX5
            refine wp_region_lin_all (S := (fun w' => w'.cell? ⟨a, 1, none⟩ = some (.int .i64 0) ∧ w'.cell? ⟨x, 0, none⟩ = some (.pointer (some ⟨g0, 0, none⟩)))) [(0, true), (1, true), (2, true), (3, true), (4, true), (5, true), (6, true), (7, false)] (by kernel_rfl) (by kernel_rfl) rfl (by kernel_rfl) ?_ (fun hHeld => ?_)
            · (try dsimp only); exact ⟨q1, q3⟩
            generalize World.drew w5 = w6 at hHeld HX6 ⊢
            refine wpL_calm (o := { dst := some 41, op := Go.Op.move (Go.Operand.tmp 1), type := 27, pos := "law.go:152", after := #[], guard := none }) (v := ?_) rfl (Or.inl ⟨by rfl, ?_⟩) ?_; rotate_left; (focus (intro w hSw; (try dsimp only at hSw); go_simp; (try (with_reducible rfl)); done)); try simp only [Act.put, List.setIfInBounds_toArray, List.set_cons_zero, List.set_cons_succ]
            refine wpL_calm (o := { dst := some 42, op := Go.Op.fieldAddr 34 (Go.Operand.tmp 5) 1, type := 0, pos := "law.go:152", after := #[], guard := none }) (v := ?_) rfl (Or.inl ⟨by rfl, ?_⟩) ?_; rotate_left; (focus (intro w hSw; (try dsimp only at hSw); go_simp; (try (with_reducible rfl)); done)); try simp only [Act.put, List.setIfInBounds_toArray, List.set_cons_zero, List.set_cons_succ]
            refine wpL_calm (o := { dst := some 43, op := Go.Op.load 3 (Go.Operand.tmp 42), type := 3, pos := "law.go:152", after := #[{ on := 1, ground := Go.Ground.data }], guard := none }) (v := ?_) rfl (Or.inl ⟨by rfl, ?_⟩) ?_; rotate_left; (focus (intro w hSw; (try dsimp only at hSw); go_simp; (try (with_reducible rfl)); done)); try simp only [Act.put, List.setIfInBounds_toArray, List.set_cons_zero, List.set_cons_succ]
            refine wpL_calm (o := { dst := some 44, op := Go.Op.nilCheck (Go.Operand.tmp 41), type := 0, pos := "law.go:152", after := #[{ on := 0, ground := Go.Ground.data }], guard := none }) (v := ?_) rfl (Or.inl ⟨by rfl, ?_⟩) ?_; rotate_left; (focus (intro w hSw; (try dsimp only at hSw); go_simp; (try (with_reducible rfl)); done)); try simp only [Act.put, List.setIfInBounds_toArray, List.set_cons_zero, List.set_cons_succ]
            refine wpL_calm (o := { dst := some 45, op := Go.Op.fieldAddr 64 (Go.Operand.tmp 44) 0, type := 0, pos := "law.go:152", after := #[{ on := 3, ground := Go.Ground.data }], guard := none }) (v := ?_) rfl (Or.inl ⟨by rfl, ?_⟩) ?_; rotate_left; (focus (intro w hSw; (try dsimp only at hSw); go_simp; (try (with_reducible rfl)); done)); try simp only [Act.put, List.setIfInBounds_toArray, List.set_cons_zero, List.set_cons_succ]
            refine wpL_calm (o := { dst := some 46, op := Go.Op.indexAddr 61 (Go.Operand.tmp 45) (Go.Operand.tmp 43), type := 0, pos := "law.go:152", after := #[{ on := 4, ground := Go.Ground.data }, { on := 2, ground := Go.Ground.data }], guard := none }) (v := ?_) rfl (Or.inl ⟨by rfl, ?_⟩) ?_; rotate_left; (focus (intro w hSw; (try dsimp only at hSw); go_simp; (try (with_reducible rfl)); done)); try simp only [Act.put, List.setIfInBounds_toArray, List.set_cons_zero, List.set_cons_succ]
            refine wpL_calm (o := { dst := some 47, op := Go.Op.load 59 (Go.Operand.tmp 46), type := 59, pos := "law.go:152", after := #[{ on := 5, ground := Go.Ground.data }], guard := none }) (v := ?_) rfl (Or.inl ⟨by rfl, ?_⟩) ?_; rotate_left; (focus (intro w hSw; (try dsimp only at hSw); go_simp; (try (with_reducible rfl)); done)); try simp only [Act.put, List.setIfInBounds_toArray, List.set_cons_zero, List.set_cons_succ]
            refine wpL_loud1 (o := { dst := some 48, op := Go.Op.call { callee := Go.Callee.value (Go.Operand.func 33), args := #[Go.Operand.tmp 47], argTypes := #[59] }, type := 0, pos := "law.go:152", after := #[{ on := 6, ground := Go.Ground.data }], guard := none }) rfl (fun K hK => ?_)
            (go_simp; go_at_call 33; refine (dvFlush_any C g0 _ HX6.out.dat.1 HX6.out.cw).mono ?_; rintro e w7 ⟨rfl, d7, k7⟩; have HX7 := Lib.hid (HX6.out.dev0 d7 k7); clear d7 k7)
            try go_wp2_with fail
            refine hK.out _ _ ?_ (fun hHeld => ?_)
            · (try dsimp only); exact ⟨cell_of_row _ _ 1 _ _ _ HX7.out.row, HX7.out.dat.2.2.1⟩
            clear hK K
            try simp only [Act.put, List.setIfInBounds_toArray, List.set_cons_zero, List.set_cons_succ]
            refine wpL_nil ?_
            refine NoPanic.normal ?_
            clear hHeld
            all_goals
              go_wp2_with fail
              go_meet
              exact HX7
          · have HX6 := Lib.hid HX5.out.drew
            have q1 : w5.cell? ⟨a, 1, none⟩ = some (.int .i64 1) := cell_of_row _ _ 1 _ _ _ HX5.out.row
            have q3 := HX5.out.dat.2.2.2
            go_upto_region 12 with fail
            clear HX5
            refine wp_region_lin_all (S := (fun w' => w'.cell? ⟨a, 1, none⟩ = some (.int .i64 1) ∧ w'.cell? ⟨x, 1, none⟩ = some (.pointer (some ⟨g1, 0, none⟩)))) [(0, true), (1, true), (2, true), (3, true), (4, true), (5, true), (6, true), (7, false)] (by kernel_rfl) (by kernel_rfl) rfl (by kernel_rfl) ?_ (fun hHeld => ?_)
            · (try dsimp only); exact ⟨q1, q3⟩
            generalize World.drew w5 = w6 at hHeld HX6 ⊢
            refine wpL_calm (o := { dst := some 41, op := Go.Op.move (Go.Operand.tmp 1), type := 27, pos := "law.go:152", after := #[], guard := none }) (v := ?_) rfl (Or.inl ⟨by rfl, ?_⟩) ?_; rotate_left; (focus (intro w hSw; (try dsimp only at hSw); go_simp; (try (with_reducible rfl)); done)); try simp only [Act.put, List.setIfInBounds_toArray, List.set_cons_zero, List.set_cons_succ]
            refine wpL_calm (o := { dst := some 42, op := Go.Op.fieldAddr 34 (Go.Operand.tmp 5) 1, type := 0, pos := "law.go:152", after := #[], guard := none }) (v := ?_) rfl (Or.inl ⟨by rfl, ?_⟩) ?_; rotate_left; (focus (intro w hSw; (try dsimp only at hSw); go_simp; (try (with_reducible rfl)); done)); try simp only [Act.put, List.setIfInBounds_toArray, List.set_cons_zero, List.set_cons_succ]
            refine wpL_calm (o := { dst := some 43, op := Go.Op.load 3 (Go.Operand.tmp 42), type := 3, pos := "law.go:152", after := #[{ on := 1, ground := Go.Ground.data }], guard := none }) (v := ?_) rfl (Or.inl ⟨by rfl, ?_⟩) ?_; rotate_left; (focus (intro w hSw; (try dsimp only at hSw); go_simp; (try (with_reducible rfl)); done)); try simp only [Act.put, List.setIfInBounds_toArray, List.set_cons_zero, List.set_cons_succ]
            refine wpL_calm (o := { dst := some 44, op := Go.Op.nilCheck (Go.Operand.tmp 41), type := 0, pos := "law.go:152", after := #[{ on := 0, ground := Go.Ground.data }], guard := none }) (v := ?_) rfl (Or.inl ⟨by rfl, ?_⟩) ?_; rotate_left; (focus (intro w hSw; (try dsimp only at hSw); go_simp; (try (with_reducible rfl)); done)); try simp only [Act.put, List.setIfInBounds_toArray, List.set_cons_zero, List.set_cons_succ]
            refine wpL_calm (o := { dst := some 45, op := Go.Op.fieldAddr 64 (Go.Operand.tmp 44) 0, type := 0, pos := "law.go:152", after := #[{ on := 3, ground := Go.Ground.data }], guard := none }) (v := ?_) rfl (Or.inl ⟨by rfl, ?_⟩) ?_; rotate_left; (focus (intro w hSw; (try dsimp only at hSw); go_simp; (try (with_reducible rfl)); done)); try simp only [Act.put, List.setIfInBounds_toArray, List.set_cons_zero, List.set_cons_succ]
            refine wpL_calm (o := { dst := some 46, op := Go.Op.indexAddr 61 (Go.Operand.tmp 45) (Go.Operand.tmp 43), type := 0, pos := "law.go:152", after := #[{ on := 4, ground := Go.Ground.data }, { on := 2, ground := Go.Ground.data }], guard := none }) (v := ?_) rfl (Or.inl ⟨by rfl, ?_⟩) ?_; rotate_left; (focus (intro w hSw; (try dsimp only at hSw); go_simp; (try (with_reducible rfl)); done)); try simp only [Act.put, List.setIfInBounds_toArray, List.set_cons_zero, List.set_cons_succ]
            refine wpL_calm (o := { dst := some 47, op := Go.Op.load 59 (Go.Operand.tmp 46), type := 59, pos := "law.go:152", after := #[{ on := 5, ground := Go.Ground.data }], guard := none }) (v := ?_) rfl (Or.inl ⟨by rfl, ?_⟩) ?_; rotate_left; (focus (intro w hSw; (try dsimp only at hSw); go_simp; (try (with_reducible rfl)); done)); try simp only [Act.put, List.setIfInBounds_toArray, List.set_cons_zero, List.set_cons_succ]
            refine wpL_loud1 (o := { dst := some 48, op := Go.Op.call { callee := Go.Callee.value (Go.Operand.func 33), args := #[Go.Operand.tmp 47], argTypes := #[59] }, type := 0, pos := "law.go:152", after := #[{ on := 6, ground := Go.Ground.data }], guard := none }) rfl (fun K hK => ?_)
            (go_simp; go_at_call 33; refine (dvFlush_any C g1 _ HX6.out.dat.2.1 HX6.out.cw).mono ?_; rintro e w7 ⟨rfl, d7, k7⟩; have HX7 := Lib.hid (HX6.out.dev1 d7 k7); clear d7 k7)
            try go_wp2_with fail
            refine hK.out _ _ ?_ (fun hHeld => ?_)
            · (try dsimp only); exact ⟨cell_of_row _ _ 1 _ _ _ HX7.out.row, HX7.out.dat.2.2.2⟩
            clear hK K
            try simp only [Act.put, List.setIfInBounds_toArray, List.set_cons_zero, List.set_cons_succ]
            refine wpL_nil ?_
            refine NoPanic.normal ?_
            clear hHeld
            all_goals
              go_wp2_with fail
              go_meet
              exact HX7
        · have hb : (z5 == 0) = false := by simpa using hz
          go_wp2_with fail
          go_meet
          exact HX5
      case rest =>
      clear HX5
      go_wp2_with fail
      go_ret
      exact hcut.out.fin _
set_option maxRecDepth 100000 in
set_option maxHeartbeats 8000000 in
theorem do8_any (B C : Nat) (p : RgP) (last : ByteArray) (cs x g0 g1 : Nat) (d i m : Int) (s : ByteArray) (raw : Bool) (x0 x1 x2 y0 y1 y2 : Value) (w : World) (h : Bo B C w p last cs x g0 g1) (hs : s.size < 300) : Calls Try.prog 12 #[.pointer (some ⟨p.R, 0, none⟩), .pointer (some ⟨x, 0, none⟩), .agg #[.int .i64 8, .int .i64 d, .int .i64 i, .int .i64 m, .string s, .bool raw, x0, x1, x2, y0, y1, y2]] w fun e w' => DoP B C p last (cs + 1) x g0 g1 w e w' := by
  obtain ⟨w1, a, HW, HA, HX⟩ := ax_start h #[.int .i64 8, .int .i64 d, .int .i64 i, .int .i64 m, .string s, .bool raw, x0, x1, x2, y0, y1, y2]
  clear h
  have q0 : w1.cell? ⟨a, 0, none⟩ = some (.int .i64 8) := cell_of_row _ _ 0 _ _ _ HX.out.row
  have PT := Lib.hid (fun w => text12_any 8 d i m s raw x0 x1 x2 y0 y1 y2 64 w hs (by omega))
  have PB0 := Lib.hid (fun t w => block12_any 8 d i m s raw x0 x1 x2 y0 y1 y2 t w)
  rw [show ((64 : Nat) : Int) = 64 from rfl] at PT
  obtain ⟨t, ht⟩ : ∃ t, textB s raw 64 = t := ⟨_, rfl⟩
  rw [ht] at PT
  clear ht
  have PB := Lib.hid (PB0.out t)
  clear PB0
  go_enter Try.func12, Try.ntmps12
  go_upto_region 1 with fail
  rw [HW.out, HA.out]
  clear HW HA
  go_wp2_with (refine wpList_load_row rfl _ _ rfl a rfl 34 _ (0, 0) _ HX.out.row Try.underlying34 rfl act_info ?_)
  refine (PT.out _).mono ?_
  rintro e w2 ⟨rfl, b2⟩
  have HX2 := Lib.hid (HX.out.below b2)
  clear b2 HX PT q0
  go_wp2_with (refine wpList_load_row rfl _ _ rfl a rfl 34 _ (0, 0) _ HX2.out.row Try.underlying34 rfl act_info ?_)
  refine (PB.out _).mono ?_
  rintro e w3 ⟨rfl, b3⟩
  have HX3 := Lib.hid (HX2.out.below b3)
  clear b3 HX2 PB
  have HZ : Hid (∀ r, rtE d i t = r → r = 0 → (d = 0 ∨ d = 1) ∧ ∃ n : Nat, n < 288 ∧ i = (n : Int) ∧ t.size = 64) := Lib.hid (fun r h1 h2 => rtE_zero (h1.trans h2))
  obtain ⟨r, hr⟩ : ∃ r, rtE d i t = r := ⟨_, rfl⟩
  rw [hr]
  have HZ := Lib.hid (HZ.out r hr)
  clear hr
  go_upto_if 67 with fail
  go_cut [10] from 67 to 78 (fun s10 wx => ∃ r : Int, s10 = .int .i64 r ∧ Hid (Ax B C w wx p last cs x g0 g1 a #[.int .i64 8, .int .i64 d, .int .i64 i, .int .i64 m, .string s, .bool raw, x0, x1, x2, y0, y1, y2]))
  case first =>
    by_cases h0 : r = 0
    · obtain ⟨hd, n, hn, rfl, h64⟩ := HZ.out h0
      subst h0
      clear HZ
      rcases hd with rfl | rfl
      · have HX6 := Lib.hid HX3.out.drew
        have q1 : w3.cell? ⟨a, 1, none⟩ = some (.int .i64 0) := cell_of_row _ _ 1 _ _ _ HX3.out.row
        have q2 : w3.cell? ⟨a, 2, none⟩ = some (.int .i64 (n : Int)) := cell_of_row _ _ 2 _ _ _ HX3.out.row
        have q3 := HX3.out.dat.2.2.1
        go_upto_region 21 with fail
        clear HX3
        refine wp_region_lin_all (S := (fun w' => w'.cell? ⟨a, 1, none⟩ = some (.int .i64 0) ∧ w'.cell? ⟨a, 2, none⟩ = some (.int .i64 (n : Int)) ∧ w'.cell? ⟨x, 0, none⟩ = some (.pointer (some ⟨g0, 0, none⟩)))) [(0, true), (1, true), (2, true), (3, true), (4, true), (5, true), (6, true), (7, true), (8, true), (9, true), (10, false)] (by kernel_rfl) (by kernel_rfl) rfl (by kernel_rfl) ?_ (fun hHeld => ?_)
        · (try dsimp only); exact ⟨q1, q2, q3⟩
        generalize World.drew w3 = w6 at hHeld HX6 ⊢
        refine wpL_calm (o := { dst := some 68, op := Go.Op.move (Go.Operand.tmp 1), type := 27, pos := "law.go:161", after := #[], guard := none }) (v := ?_) rfl (Or.inl ⟨by rfl, ?_⟩) ?_; rotate_left; (focus (intro w hSw; (try dsimp only at hSw); go_simp; (try (with_reducible rfl)); done)); try simp only [Act.put, List.setIfInBounds_toArray, List.set_cons_zero, List.set_cons_succ]
        refine wpL_calm (o := { dst := some 69, op := Go.Op.fieldAddr 34 (Go.Operand.tmp 5) 1, type := 0, pos := "law.go:161", after := #[], guard := none }) (v := ?_) rfl (Or.inl ⟨by rfl, ?_⟩) ?_; rotate_left; (focus (intro w hSw; (try dsimp only at hSw); go_simp; (try (with_reducible rfl)); done)); try simp only [Act.put, List.setIfInBounds_toArray, List.set_cons_zero, List.set_cons_succ]
        refine wpL_calm (o := { dst := some 70, op := Go.Op.load 3 (Go.Operand.tmp 69), type := 3, pos := "law.go:161", after := #[{ on := 1, ground := Go.Ground.data }], guard := none }) (v := ?_) rfl (Or.inl ⟨by rfl, ?_⟩) ?_; rotate_left; (focus (intro w hSw; (try dsimp only at hSw); go_simp; (try (with_reducible rfl)); done)); try simp only [Act.put, List.setIfInBounds_toArray, List.set_cons_zero, List.set_cons_succ]
        refine wpL_calm (o := { dst := some 71, op := Go.Op.nilCheck (Go.Operand.tmp 68), type := 0, pos := "law.go:161", after := #[{ on := 0, ground := Go.Ground.data }], guard := none }) (v := ?_) rfl (Or.inl ⟨by rfl, ?_⟩) ?_; rotate_left; (focus (intro w hSw; (try dsimp only at hSw); go_simp; (try (with_reducible rfl)); done)); try simp only [Act.put, List.setIfInBounds_toArray, List.set_cons_zero, List.set_cons_succ]
        refine wpL_calm (o := { dst := some 72, op := Go.Op.fieldAddr 64 (Go.Operand.tmp 71) 0, type := 0, pos := "law.go:161", after := #[{ on := 3, ground := Go.Ground.data }], guard := none }) (v := ?_) rfl (Or.inl ⟨by rfl, ?_⟩) ?_; rotate_left; (focus (intro w hSw; (try dsimp only at hSw); go_simp; (try (with_reducible rfl)); done)); try simp only [Act.put, List.setIfInBounds_toArray, List.set_cons_zero, List.set_cons_succ]
        refine wpL_calm (o := { dst := some 73, op := Go.Op.indexAddr 61 (Go.Operand.tmp 72) (Go.Operand.tmp 70), type := 0, pos := "law.go:161", after := #[{ on := 4, ground := Go.Ground.data }, { on := 2, ground := Go.Ground.data }], guard := none }) (v := ?_) rfl (Or.inl ⟨by rfl, ?_⟩) ?_; rotate_left; (focus (intro w hSw; (try dsimp only at hSw); go_simp; (try (with_reducible rfl)); done)); try simp only [Act.put, List.setIfInBounds_toArray, List.set_cons_zero, List.set_cons_succ]
        refine wpL_calm (o := { dst := some 74, op := Go.Op.load 59 (Go.Operand.tmp 73), type := 59, pos := "law.go:161", after := #[{ on := 5, ground := Go.Ground.data }], guard := none }) (v := ?_) rfl (Or.inl ⟨by rfl, ?_⟩) ?_; rotate_left; (focus (intro w hSw; (try dsimp only at hSw); go_simp; (try (with_reducible rfl)); done)); try simp only [Act.put, List.setIfInBounds_toArray, List.set_cons_zero, List.set_cons_succ]
        refine wpL_calm (o := { dst := some 75, op := Go.Op.fieldAddr 34 (Go.Operand.tmp 5) 2, type := 0, pos := "law.go:161", after := #[], guard := none }) (v := ?_) rfl (Or.inl ⟨by rfl, ?_⟩) ?_; rotate_left; (focus (intro w hSw; (try dsimp only at hSw); go_simp; (try (with_reducible rfl)); done)); try simp only [Act.put, List.setIfInBounds_toArray, List.set_cons_zero, List.set_cons_succ]
        refine wpL_calm (o := { dst := some 76, op := Go.Op.load 3 (Go.Operand.tmp 75), type := 3, pos := "law.go:161", after := #[{ on := 7, ground := Go.Ground.data }], guard := none }) (v := ?_) rfl (Or.inl ⟨by rfl, ?_⟩) ?_; rotate_left; (focus (intro w hSw; (try dsimp only at hSw); go_simp; (try (with_reducible rfl)); done)); try simp only [Act.put, List.setIfInBounds_toArray, List.set_cons_zero, List.set_cons_succ]
        refine wpL_calm (o := { dst := some 77, op := Go.Op.move (Go.Operand.tmp 9), type := 9, pos := "law.go:161", after := #[], guard := none }) (v := ?_) rfl (Or.inl ⟨by rfl, ?_⟩) ?_; rotate_left; (focus (intro w hSw; (try dsimp only at hSw); go_simp; (try (with_reducible rfl)); done)); try simp only [Act.put, List.setIfInBounds_toArray, List.set_cons_zero, List.set_cons_succ]
        refine wpL_loud1 (o := { dst := some 78, op := Go.Op.call { callee := Go.Callee.value (Go.Operand.func 36), args := #[Go.Operand.tmp 74, Go.Operand.tmp 76, Go.Operand.tmp 77], argTypes := #[59, 3, 9] }, type := 0, pos := "law.go:161", after := #[{ on := 6, ground := Go.Ground.data }, { on := 8, ground := Go.Ground.data }, { on := 9, ground := Go.Ground.data }], guard := none }) rfl (fun K hK => ?_)
        (go_simp; go_at_call 36; refine (dvTamper_any C g0 n t _ HX6.out.dat.1 hn h64 HX6.out.cw).mono ?_; rintro e w7 ⟨rfl, d7, k7⟩; have HX7 := Lib.hid (HX6.out.dev0 d7 k7); clear d7 k7)
        try go_wp2_with fail
        refine hK.out _ _ ?_ (fun hHeld => ?_)
        · (try dsimp only); exact ⟨cell_of_row _ _ 1 _ _ _ HX7.out.row, cell_of_row _ _ 2 _ _ _ HX7.out.row, HX7.out.dat.2.2.1⟩
        clear hK K
        try simp only [Act.put, List.setIfInBounds_toArray, List.set_cons_zero, List.set_cons_succ]
        refine wpL_nil ?_
        refine NoPanic.normal ?_
        clear hHeld
        all_goals
          go_wp2_with fail
          go_meet
          exact ⟨_, rfl, HX7⟩
      · have HX6 := Lib.hid HX3.out.drew
        have q1 : w3.cell? ⟨a, 1, none⟩ = some (.int .i64 1) := cell_of_row _ _ 1 _ _ _ HX3.out.row
        have q2 : w3.cell? ⟨a, 2, none⟩ = some (.int .i64 (n : Int)) := cell_of_row _ _ 2 _ _ _ HX3.out.row
        have q3 := HX3.out.dat.2.2.2
        go_upto_region 21 with fail
        clear HX3
        refine wp_region_lin_all (S := (fun w' => w'.cell? ⟨a, 1, none⟩ = some (.int .i64 1) ∧ w'.cell? ⟨a, 2, none⟩ = some (.int .i64 (n : Int)) ∧ w'.cell? ⟨x, 1, none⟩ = some (.pointer (some ⟨g1, 0, none⟩)))) [(0, true), (1, true), (2, true), (3, true), (4, true), (5, true), (6, true), (7, true), (8, true), (9, true), (10, false)] (by kernel_rfl) (by kernel_rfl) rfl (by kernel_rfl) ?_ (fun hHeld => ?_)
        · (try dsimp only); exact ⟨q1, q2, q3⟩
        generalize World.drew w3 = w6 at hHeld HX6 ⊢
        refine wpL_calm (o := { dst := some 68, op := Go.Op.move (Go.Operand.tmp 1), type := 27, pos := "law.go:161", after := #[], guard := none }) (v := ?_) rfl (Or.inl ⟨by rfl, ?_⟩) ?_; rotate_left; (focus (intro w hSw; (try dsimp only at hSw); go_simp; (try (with_reducible rfl)); done)); try simp only [Act.put, List.setIfInBounds_toArray, List.set_cons_zero, List.set_cons_succ]
        refine wpL_calm (o := { dst := some 69, op := Go.Op.fieldAddr 34 (Go.Operand.tmp 5) 1, type := 0, pos := "law.go:161", after := #[], guard := none }) (v := ?_) rfl (Or.inl ⟨by rfl, ?_⟩) ?_; rotate_left; (focus (intro w hSw; (try dsimp only at hSw); go_simp; (try (with_reducible rfl)); done)); try simp only [Act.put, List.setIfInBounds_toArray, List.set_cons_zero, List.set_cons_succ]
        refine wpL_calm (o := { dst := some 70, op := Go.Op.load 3 (Go.Operand.tmp 69), type := 3, pos := "law.go:161", after := #[{ on := 1, ground := Go.Ground.data }], guard := none }) (v := ?_) rfl (Or.inl ⟨by rfl, ?_⟩) ?_; rotate_left; (focus (intro w hSw; (try dsimp only at hSw); go_simp; (try (with_reducible rfl)); done)); try simp only [Act.put, List.setIfInBounds_toArray, List.set_cons_zero, List.set_cons_succ]
        refine wpL_calm (o := { dst := some 71, op := Go.Op.nilCheck (Go.Operand.tmp 68), type := 0, pos := "law.go:161", after := #[{ on := 0, ground := Go.Ground.data }], guard := none }) (v := ?_) rfl (Or.inl ⟨by rfl, ?_⟩) ?_; rotate_left; (focus (intro w hSw; (try dsimp only at hSw); go_simp; (try (with_reducible rfl)); done)); try simp only [Act.put, List.setIfInBounds_toArray, List.set_cons_zero, List.set_cons_succ]
        refine wpL_calm (o := { dst := some 72, op := Go.Op.fieldAddr 64 (Go.Operand.tmp 71) 0, type := 0, pos := "law.go:161", after := #[{ on := 3, ground := Go.Ground.data }], guard := none }) (v := ?_) rfl (Or.inl ⟨by rfl, ?_⟩) ?_; rotate_left; (focus (intro w hSw; (try dsimp only at hSw); go_simp; (try (with_reducible rfl)); done)); try simp only [Act.put, List.setIfInBounds_toArray, List.set_cons_zero, List.set_cons_succ]
        refine wpL_calm (o := { dst := some 73, op := Go.Op.indexAddr 61 (Go.Operand.tmp 72) (Go.Operand.tmp 70), type := 0, pos := "law.go:161", after := #[{ on := 4, ground := Go.Ground.data }, { on := 2, ground := Go.Ground.data }], guard := none }) (v := ?_) rfl (Or.inl ⟨by rfl, ?_⟩) ?_; rotate_left; (focus (intro w hSw; (try dsimp only at hSw); go_simp; (try (with_reducible rfl)); done)); try simp only [Act.put, List.setIfInBounds_toArray, List.set_cons_zero, List.set_cons_succ]
        refine wpL_calm (o := { dst := some 74, op := Go.Op.load 59 (Go.Operand.tmp 73), type := 59, pos := "law.go:161", after := #[{ on := 5, ground := Go.Ground.data }], guard := none }) (v := ?_) rfl (Or.inl ⟨by rfl, ?_⟩) ?_; rotate_left; (focus (intro w hSw; (try dsimp only at hSw); go_simp; (try (with_reducible rfl)); done)); try simp only [Act.put, List.setIfInBounds_toArray, List.set_cons_zero, List.set_cons_succ]
        refine wpL_calm (o := { dst := some 75, op := Go.Op.fieldAddr 34 (Go.Operand.tmp 5) 2, type := 0, pos := "law.go:161", after := #[], guard := none }) (v := ?_) rfl (Or.inl ⟨by rfl, ?_⟩) ?_; rotate_left; (focus (intro w hSw; (try dsimp only at hSw); go_simp; (try (with_reducible rfl)); done)); try simp only [Act.put, List.setIfInBounds_toArray, List.set_cons_zero, List.set_cons_succ]
        refine wpL_calm (o := { dst := some 76, op := Go.Op.load 3 (Go.Operand.tmp 75), type := 3, pos := "law.go:161", after := #[{ on := 7, ground := Go.Ground.data }], guard := none }) (v := ?_) rfl (Or.inl ⟨by rfl, ?_⟩) ?_; rotate_left; (focus (intro w hSw; (try dsimp only at hSw); go_simp; (try (with_reducible rfl)); done)); try simp only [Act.put, List.setIfInBounds_toArray, List.set_cons_zero, List.set_cons_succ]
        refine wpL_calm (o := { dst := some 77, op := Go.Op.move (Go.Operand.tmp 9), type := 9, pos := "law.go:161", after := #[], guard := none }) (v := ?_) rfl (Or.inl ⟨by rfl, ?_⟩) ?_; rotate_left; (focus (intro w hSw; (try dsimp only at hSw); go_simp; (try (with_reducible rfl)); done)); try simp only [Act.put, List.setIfInBounds_toArray, List.set_cons_zero, List.set_cons_succ]
        refine wpL_loud1 (o := { dst := some 78, op := Go.Op.call { callee := Go.Callee.value (Go.Operand.func 36), args := #[Go.Operand.tmp 74, Go.Operand.tmp 76, Go.Operand.tmp 77], argTypes := #[59, 3, 9] }, type := 0, pos := "law.go:161", after := #[{ on := 6, ground := Go.Ground.data }, { on := 8, ground := Go.Ground.data }, { on := 9, ground := Go.Ground.data }], guard := none }) rfl (fun K hK => ?_)
        (go_simp; go_at_call 36; refine (dvTamper_any C g1 n t _ HX6.out.dat.2.1 hn h64 HX6.out.cw).mono ?_; rintro e w7 ⟨rfl, d7, k7⟩; have HX7 := Lib.hid (HX6.out.dev1 d7 k7); clear d7 k7)
        try go_wp2_with fail
        refine hK.out _ _ ?_ (fun hHeld => ?_)
        · (try dsimp only); exact ⟨cell_of_row _ _ 1 _ _ _ HX7.out.row, cell_of_row _ _ 2 _ _ _ HX7.out.row, HX7.out.dat.2.2.2⟩
        clear hK K
        try simp only [Act.put, List.setIfInBounds_toArray, List.set_cons_zero, List.set_cons_succ]
        refine wpL_nil ?_
        refine NoPanic.normal ?_
        clear hHeld
        all_goals
          go_wp2_with fail
          go_meet
          exact ⟨_, rfl, HX7⟩
    · have hb : (r == 0) = false := by simpa using h0
      go_wp2_with fail
      go_meet
      exact ⟨_, rfl, HX3⟩
  case rest =>
  obtain ⟨r5, rfl, HX5⟩ := hcut
  clear HX3 HZ
  have q1 : wc.cell? ⟨a, 1, none⟩ = some (.int .i64 d) := cell_of_row _ _ 1 _ _ _ HX5.out.row
  have q2 : wc.cell? ⟨a, 2, none⟩ = some (.int .i64 i) := cell_of_row _ _ 2 _ _ _ HX5.out.row
  go_wp2_with fail
  refine (gTamper d i t HX5.out.bo.rg).mono ?_
  rintro e w7 ⟨z, rfl, r7, k7⟩
  have HX7 := Lib.hid (HX5.out.rig r7 k7)
  clear r7 k7
  go_wp2_with fail
  go_ret
  exact HX7.out.fin _
end Go.Proofs.Ytjmginkkjkbpoaa
