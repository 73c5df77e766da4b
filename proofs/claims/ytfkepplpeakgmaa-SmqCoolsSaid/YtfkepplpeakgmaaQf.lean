/- Package smq: the law's slot. -/
import Derived.Test.YtfkepplpeakgmaaQd
namespace Go.Proofs.Ytfkepplpeakgmaa
open Go.RowKit Go.Deep
set_option linter.unusedVariables false
set_option linter.unusedSimpArgs false
theorem mis_in {S : Nat → List Nat} {j : Nat} (hj : j < 8) (h : lvl S j ≠ -1) : misA S 8 (j : Int) = 0 := misA_ok hj h
theorem mis_no {S : Nat → List Nat} {j : Nat} (hj : j < 8) (h : lvl S j = -1) : misA S 8 (j : Int) = 7 := by unfold misA; rw [if_neg (by omega), Int.toNat_natCast, if_pos h]
theorem mis_out {S : Nat → List Nat} {i : Int} (h : i < 0 ∨ 8 ≤ i) : misA S 8 i = 3 := by unfold misA; rw [if_pos (by omega)]
theorem add_in {S : Nat → List Nat} {j : Nat} (hj : j < 8) (h : lvl S j ≠ -1) : addA S 8 (j : Int) 1 = 8 := by unfold addA; rw [if_neg (by omega), Int.toNat_natCast, if_neg (by omega), if_pos h]
theorem add_no {S : Nat → List Nat} {j : Nat} (hj : j < 8) (h : lvl S j = -1) : addA S 8 (j : Int) 1 = 0 := by unfold addA; rw [if_neg (by omega), Int.toNat_natCast, if_neg (by omega), if_neg (by simpa using h)]
theorem add_out {S : Nat → List Nat} {i : Int} (h : i < 0 ∨ 8 ≤ i) : addA S 8 i 1 = 3 := by unfold addA; rw [if_pos (by omega)]
theorem leaS_in {S : Nat → List Nat} {j : Nat} (h : misA S 8 (j : Int) = 0) : leaS S (j : Int) = rem S j := by unfold leaS; rw [if_pos h, Int.toNat_natCast]
theorem leaS_no {S : Nat → List Nat} {i : Int} (h : misA S 8 i ≠ 0) : leaS S i = S := by unfold leaS; rw [if_neg h]
theorem useS_in {S : Nat → List Nat} {j : Nat} (h : misA S 8 (j : Int) = 0) : useS S (j : Int) = movA S j 0 := by unfold useS; rw [if_pos h, Int.toNat_natCast]
theorem useS_no {S : Nat → List Nat} {i : Int} (h : misA S 8 i ≠ 0) : useS S i = S := by unfold useS; rw [if_neg h]
theorem setB_in {S : Nat → List Nat} {U : Nat → Bool} {j : Nat} {b : Bool} (h : misA S 8 (j : Int) = 0) : setB S U (j : Int) b = sU U j b := by unfold setB; rw [if_pos h, Int.toNat_natCast]
theorem setB_no {S : Nat → List Nat} {U : Nat → Bool} {i : Int} {b : Bool} (h : misA S 8 i ≠ 0) : setB S U i b = U := by unfold setB; rw [if_neg h]
section
variable {B p h e P H E : Nat} {w : World} {s : St}
set_option maxRecDepth 100000 in
set_option maxHeartbeats 8000000 in
theorem slot4_any (kd i : Int) (hkd : kd = 4) (b : Sb B w p h e P H E s s) : Calls Try.prog 23 #[.pointer (some ⟨p, 0, none⟩), .pointer (some ⟨P, 0, none⟩), .agg #[.int .i64 kd, .int .i64 i]] w (DoQ B p h e P H E s.k w) := by
  obtain ⟨w1, a, HW, HA, HQ⟩ := sa_start b #[.int .i64 kd, .int .i64 i]
  clear b
  have r0 := HQ.out.cell 0 (.int .i64 kd) rfl
  have r1 := HQ.out.cell 1 (.int .i64 i) rfl
  have c1 := HQ.out.c1
  subst hkd
  obtain ⟨kd, hkd⟩ : ∃ kd : Int, Hid (kd = 4) := ⟨4, Lib.hid rfl⟩
  rw [← hkd.out] at HW HQ r0 ⊢
  have t4 : (kd == 4) = true := by rw [hkd.out]; rfl
  go_enter Try.func23, Try.ntmps23
  go_upto_region 1 with fail
  rw [HW.out, HA.out]
  clear HW HA
  by_cases hin : 0 ≤ i ∧ i < 8
  · obtain ⟨j, rfl⟩ : ∃ j : Nat, i = (j : Int) := ⟨i.toNat, by omega⟩
    have hj : j < 8 := by omega
    have hji : (j : Int) < 8 := hin.2
    clear hin
    rcases lvl_cases s.S j with ⟨hv, _⟩ | ⟨l, hl, hv, _⟩
    · as_aux_lemma =>
        have HL := Lib.hid hv
        have HZ := Lib.hid (add_no hj hv)
        clear hv
        go_upto_region 5 with fail
        refine wp_region_lin (S := (fun w' => w'.cell? ⟨P, 1, none⟩ = some (.pointer (some ⟨E, 0, none⟩)) ∧ w'.cell? ⟨a, 1, none⟩ = some (.int .i64 (j : Int)))) [(0, true), (1, true), (2, true), (3, true), (4, true), (5, true), (6, false), (7, true)] (by kernel_rfl) (by kernel_rfl) rfl (by kernel_rfl) ?_ (fun hHeld => ?_)
        · (try dsimp only); exact ⟨c1, r1⟩
        have HQ1 := Lib.hid (HQ.out.below (Below.refl _ _).drew)
        clear c1 r1 r0 HQ
        generalize World.drew w1 = w2 at hHeld HQ1 ⊢
        have CW := HQ1.out.where_ j
        rw [HL.out] at CW
        have CW := Lib.hid CW
        (refine wpL_calm (o := { dst := some 20, op := Go.Op.move (Go.Operand.tmp 1), type := 25, pos := "law.go:41", after := #[], guard := none }) (v := ?_) rfl (Or.inl ⟨by rfl, ?_⟩) ?_; rotate_left; (focus (intro w hSw; (try dsimp only at hSw); go_simp; (try (with_reducible rfl)); done)); try simp only [Act.put, List.setIfInBounds_toArray, List.set_cons_zero, List.set_cons_succ])
        (refine wpL_calm (o := { dst := some 21, op := Go.Op.nilCheck (Go.Operand.tmp 20), type := 0, pos := "law.go:41", after := #[{ on := 0, ground := Go.Ground.data }], guard := none }) (v := ?_) rfl (Or.inl ⟨by rfl, ?_⟩) ?_; rotate_left; (focus (intro w hSw; (try dsimp only at hSw); go_simp; (try (with_reducible rfl)); done)); try simp only [Act.put, List.setIfInBounds_toArray, List.set_cons_zero, List.set_cons_succ])
        (refine wpL_calm (o := { dst := some 22, op := Go.Op.fieldAddr 61 (Go.Operand.tmp 21) 1, type := 0, pos := "law.go:41", after := #[{ on := 1, ground := Go.Ground.data }], guard := none }) (v := ?_) rfl (Or.inl ⟨by rfl, ?_⟩) ?_; rotate_left; (focus (intro w hSw; (try dsimp only at hSw); go_simp; (try (with_reducible rfl)); done)); try simp only [Act.put, List.setIfInBounds_toArray, List.set_cons_zero, List.set_cons_succ])
        (refine wpL_calm (o := { dst := some 23, op := Go.Op.load 56 (Go.Operand.tmp 22), type := 56, pos := "law.go:41", after := #[{ on := 2, ground := Go.Ground.data }], guard := none }) (v := ?_) rfl (Or.inl ⟨by rfl, ?_⟩) ?_; rotate_left; (focus (intro w hSw; (try dsimp only at hSw); go_simp; (try (with_reducible rfl)); done)); try simp only [Act.put, List.setIfInBounds_toArray, List.set_cons_zero, List.set_cons_succ])
        (refine wpL_calm (o := { dst := some 24, op := Go.Op.fieldAddr 30 (Go.Operand.tmp 5) 1, type := 0, pos := "law.go:41", after := #[], guard := none }) (v := ?_) rfl (Or.inl ⟨by rfl, ?_⟩) ?_; rotate_left; (focus (intro w hSw; (try dsimp only at hSw); go_simp; (try (with_reducible rfl)); done)); try simp only [Act.put, List.setIfInBounds_toArray, List.set_cons_zero, List.set_cons_succ])
        (refine wpL_calm (o := { dst := some 25, op := Go.Op.load 3 (Go.Operand.tmp 24), type := 3, pos := "law.go:41", after := #[{ on := 4, ground := Go.Ground.data }], guard := none }) (v := ?_) rfl (Or.inl ⟨by rfl, ?_⟩) ?_; rotate_left; (focus (intro w hSw; (try dsimp only at hSw); go_simp; (try (with_reducible rfl)); done)); try simp only [Act.put, List.setIfInBounds_toArray, List.set_cons_zero, List.set_cons_succ])
        refine wpL_loud1 (o := { dst := some 26, op := Go.Op.call { callee := Go.Callee.value (Go.Operand.func 25), args := #[Go.Operand.tmp 23, Go.Operand.tmp 25], argTypes := #[56, 3] }, type := 3, pos := "law.go:41", after := #[{ on := 3, ground := Go.Ground.data }, { on := 5, ground := Go.Ground.data }], guard := none }) rfl (fun K hK => ?_)
        (go_simp; go_at_call 25; refine CW.out.mono ?_; rintro x w3 ⟨rfl, rfl⟩)
        try go_wp2_with fail
        refine hK.out _ _ ?_ (fun hHeld => ?_)
        · (try dsimp only); try trivial
        clear hK K
        try simp only [Act.put, List.setIfInBounds_toArray, List.set_cons_zero, List.set_cons_succ]
        (refine wpL_calm (o := { dst := some 27, op := Go.Op.binOp Go.BinOp.lss 3 (Go.Operand.tmp 26) (Go.Operand.const (Go.Value.int Go.IntKind.i64 0)) 3, type := 4, pos := "law.go:41", after := #[{ on := 6, ground := Go.Ground.data }], guard := none }) (v := ?_) rfl (Or.inl ⟨by rfl, ?_⟩) ?_; rotate_left; (focus (intro w hSw; (try dsimp only at hSw); go_simp; (try (with_reducible rfl)); done)); try simp only [Act.put, List.setIfInBounds_toArray, List.set_cons_zero, List.set_cons_succ])
        refine wpL_nil ?_
        refine NoPanic.normal ?_
        have r0 := HQ1.out.cell 0 (.int .i64 kd) rfl
        have r1 := HQ1.out.cell 1 (.int .i64 (j : Int)) rfl
        have c1 := HQ1.out.c1
        clear CW
        have CE := HQ1.out.enter (j : Int)
        rw [HZ.out, if_pos rfl, Int.toNat_natCast] at CE
        have CE := Lib.hid CE
        go_wp2_with fail
        refine CE.out.mono ?_
        rintro x wp ⟨rfl, q4⟩
        have HQ2 := Lib.hid q4
        have r0 := q4.cell 0 (.int .i64 kd) rfl
        have r1 := q4.cell 1 (.int .i64 (j : Int)) rfl
        have c1 := q4.c1
        clear q4 CE HQ1 hHeld
        go_wp2_with fail
        refine wp_region_lin (S := (fun w' => w'.cell? ⟨P, 1, none⟩ = some (.pointer (some ⟨E, 0, none⟩)) ∧ w'.cell? ⟨a, 1, none⟩ = some (.int .i64 (j : Int)))) [(0, true), (1, true), (2, true), (3, true), (4, true), (5, true), (6, false)] (by kernel_rfl) (by kernel_rfl) rfl (by kernel_rfl) ?_ (fun hHeld => ?_)
        · (try dsimp only); exact ⟨c1, r1⟩
        have HQ2d := Lib.hid (HQ2.out.below (Below.refl _ _).drew)
        clear c1 r1 r0 HQ2
        generalize World.drew wp = wd at hHeld HQ2d ⊢
        have CP := Lib.hid (HQ2d.out.rput j 1 hj (by omega))
        (refine wpL_calm (o := { dst := some 44, op := Go.Op.move (Go.Operand.tmp 1), type := 25, pos := "law.go:53", after := #[], guard := none }) (v := ?_) rfl (Or.inl ⟨by rfl, ?_⟩) ?_; rotate_left; (focus (intro w hSw; (try dsimp only at hSw); go_simp; (try (with_reducible rfl)); done)); try simp only [Act.put, List.setIfInBounds_toArray, List.set_cons_zero, List.set_cons_succ])
        (refine wpL_calm (o := { dst := some 45, op := Go.Op.nilCheck (Go.Operand.tmp 44), type := 0, pos := "law.go:53", after := #[{ on := 0, ground := Go.Ground.data }], guard := none }) (v := ?_) rfl (Or.inl ⟨by rfl, ?_⟩) ?_; rotate_left; (focus (intro w hSw; (try dsimp only at hSw); go_simp; (try (with_reducible rfl)); done)); try simp only [Act.put, List.setIfInBounds_toArray, List.set_cons_zero, List.set_cons_succ])
        (refine wpL_calm (o := { dst := some 46, op := Go.Op.fieldAddr 61 (Go.Operand.tmp 45) 1, type := 0, pos := "law.go:53", after := #[{ on := 1, ground := Go.Ground.data }], guard := none }) (v := ?_) rfl (Or.inl ⟨by rfl, ?_⟩) ?_; rotate_left; (focus (intro w hSw; (try dsimp only at hSw); go_simp; (try (with_reducible rfl)); done)); try simp only [Act.put, List.setIfInBounds_toArray, List.set_cons_zero, List.set_cons_succ])
        (refine wpL_calm (o := { dst := some 47, op := Go.Op.load 56 (Go.Operand.tmp 46), type := 56, pos := "law.go:53", after := #[{ on := 2, ground := Go.Ground.data }], guard := none }) (v := ?_) rfl (Or.inl ⟨by rfl, ?_⟩) ?_; rotate_left; (focus (intro w hSw; (try dsimp only at hSw); go_simp; (try (with_reducible rfl)); done)); try simp only [Act.put, List.setIfInBounds_toArray, List.set_cons_zero, List.set_cons_succ])
        (refine wpL_calm (o := { dst := some 48, op := Go.Op.fieldAddr 30 (Go.Operand.tmp 5) 1, type := 0, pos := "law.go:53", after := #[], guard := none }) (v := ?_) rfl (Or.inl ⟨by rfl, ?_⟩) ?_; rotate_left; (focus (intro w hSw; (try dsimp only at hSw); go_simp; (try (with_reducible rfl)); done)); try simp only [Act.put, List.setIfInBounds_toArray, List.set_cons_zero, List.set_cons_succ])
        (refine wpL_calm (o := { dst := some 49, op := Go.Op.load 3 (Go.Operand.tmp 48), type := 3, pos := "law.go:53", after := #[{ on := 4, ground := Go.Ground.data }], guard := none }) (v := ?_) rfl (Or.inl ⟨by rfl, ?_⟩) ?_; rotate_left; (focus (intro w hSw; (try dsimp only at hSw); go_simp; (try (with_reducible rfl)); done)); try simp only [Act.put, List.setIfInBounds_toArray, List.set_cons_zero, List.set_cons_succ])
        refine wpL_loud0 (o := { dst := some 50, op := Go.Op.call { callee := Go.Callee.value (Go.Operand.func 35), args := #[Go.Operand.tmp 47, Go.Operand.tmp 49, Go.Operand.const (Go.Value.int Go.IntKind.i64 1)], argTypes := #[56, 3, 3] }, type := 0, pos := "law.go:53", after := #[{ on := 3, ground := Go.Ground.data }, { on := 5, ground := Go.Ground.data }], guard := none }) rfl (by kernel_rfl) (fun K hK => ?_)
        (go_simp; go_at_call 35; refine CP.out.mono ?_; rintro x wq ⟨rfl, q5⟩)
        try go_wp2_with fail
        refine hK.out _ _ ?_
        clear hK K
        try simp only [Act.put, List.setIfInBounds_toArray, List.set_cons_zero, List.set_cons_succ]
        refine wpL_nil ?_
        refine NoPanic.normal ?_
        have HQ3 := Lib.hid q5
        clear q5 CP HQ2d hHeld
        have r0 := HQ3.out.cell 0 (.int .i64 kd) rfl
        have r1 := HQ3.out.cell 1 (.int .i64 (j : Int)) rfl
        have c1 := HQ3.out.c1
        go_wp2_with fail
        go_ret
        exact HQ3.out.fin rfl (Nat.le_refl _) rfl
    · as_aux_lemma =>
        have HL := Lib.hid hv
        have hl0 : decide ((l : Int) < 0) = false := by simp
        have HLN : Hid (lvl s.S j ≠ -1) := Lib.hid (by rw [hv]; omega)
        have HZ := Lib.hid (add_in hj HLN.out)
        clear hv
        go_upto_region 5 with fail
        refine wp_region_lin (S := (fun w' => w'.cell? ⟨P, 1, none⟩ = some (.pointer (some ⟨E, 0, none⟩)) ∧ w'.cell? ⟨a, 1, none⟩ = some (.int .i64 (j : Int)))) [(0, true), (1, true), (2, true), (3, true), (4, true), (5, true), (6, false), (7, true)] (by kernel_rfl) (by kernel_rfl) rfl (by kernel_rfl) ?_ (fun hHeld => ?_)
        · (try dsimp only); exact ⟨c1, r1⟩
        have HQ1 := Lib.hid (HQ.out.below (Below.refl _ _).drew)
        clear c1 r1 r0 HQ
        generalize World.drew w1 = w2 at hHeld HQ1 ⊢
        have CW := HQ1.out.where_ j
        rw [HL.out] at CW
        have CW := Lib.hid CW
        (refine wpL_calm (o := { dst := some 20, op := Go.Op.move (Go.Operand.tmp 1), type := 25, pos := "law.go:41", after := #[], guard := none }) (v := ?_) rfl (Or.inl ⟨by rfl, ?_⟩) ?_; rotate_left; (focus (intro w hSw; (try dsimp only at hSw); go_simp; (try (with_reducible rfl)); done)); try simp only [Act.put, List.setIfInBounds_toArray, List.set_cons_zero, List.set_cons_succ])
        (refine wpL_calm (o := { dst := some 21, op := Go.Op.nilCheck (Go.Operand.tmp 20), type := 0, pos := "law.go:41", after := #[{ on := 0, ground := Go.Ground.data }], guard := none }) (v := ?_) rfl (Or.inl ⟨by rfl, ?_⟩) ?_; rotate_left; (focus (intro w hSw; (try dsimp only at hSw); go_simp; (try (with_reducible rfl)); done)); try simp only [Act.put, List.setIfInBounds_toArray, List.set_cons_zero, List.set_cons_succ])
        (refine wpL_calm (o := { dst := some 22, op := Go.Op.fieldAddr 61 (Go.Operand.tmp 21) 1, type := 0, pos := "law.go:41", after := #[{ on := 1, ground := Go.Ground.data }], guard := none }) (v := ?_) rfl (Or.inl ⟨by rfl, ?_⟩) ?_; rotate_left; (focus (intro w hSw; (try dsimp only at hSw); go_simp; (try (with_reducible rfl)); done)); try simp only [Act.put, List.setIfInBounds_toArray, List.set_cons_zero, List.set_cons_succ])
        (refine wpL_calm (o := { dst := some 23, op := Go.Op.load 56 (Go.Operand.tmp 22), type := 56, pos := "law.go:41", after := #[{ on := 2, ground := Go.Ground.data }], guard := none }) (v := ?_) rfl (Or.inl ⟨by rfl, ?_⟩) ?_; rotate_left; (focus (intro w hSw; (try dsimp only at hSw); go_simp; (try (with_reducible rfl)); done)); try simp only [Act.put, List.setIfInBounds_toArray, List.set_cons_zero, List.set_cons_succ])
        (refine wpL_calm (o := { dst := some 24, op := Go.Op.fieldAddr 30 (Go.Operand.tmp 5) 1, type := 0, pos := "law.go:41", after := #[], guard := none }) (v := ?_) rfl (Or.inl ⟨by rfl, ?_⟩) ?_; rotate_left; (focus (intro w hSw; (try dsimp only at hSw); go_simp; (try (with_reducible rfl)); done)); try simp only [Act.put, List.setIfInBounds_toArray, List.set_cons_zero, List.set_cons_succ])
        (refine wpL_calm (o := { dst := some 25, op := Go.Op.load 3 (Go.Operand.tmp 24), type := 3, pos := "law.go:41", after := #[{ on := 4, ground := Go.Ground.data }], guard := none }) (v := ?_) rfl (Or.inl ⟨by rfl, ?_⟩) ?_; rotate_left; (focus (intro w hSw; (try dsimp only at hSw); go_simp; (try (with_reducible rfl)); done)); try simp only [Act.put, List.setIfInBounds_toArray, List.set_cons_zero, List.set_cons_succ])
        refine wpL_loud1 (o := { dst := some 26, op := Go.Op.call { callee := Go.Callee.value (Go.Operand.func 25), args := #[Go.Operand.tmp 23, Go.Operand.tmp 25], argTypes := #[56, 3] }, type := 3, pos := "law.go:41", after := #[{ on := 3, ground := Go.Ground.data }, { on := 5, ground := Go.Ground.data }], guard := none }) rfl (fun K hK => ?_)
        (go_simp; go_at_call 25; refine CW.out.mono ?_; rintro x w3 ⟨rfl, rfl⟩)
        try go_wp2_with fail
        refine hK.out _ _ ?_ (fun hHeld => ?_)
        · (try dsimp only); try trivial
        clear hK K
        try simp only [Act.put, List.setIfInBounds_toArray, List.set_cons_zero, List.set_cons_succ]
        (refine wpL_calm (o := { dst := some 27, op := Go.Op.binOp Go.BinOp.lss 3 (Go.Operand.tmp 26) (Go.Operand.const (Go.Value.int Go.IntKind.i64 0)) 3, type := 4, pos := "law.go:41", after := #[{ on := 6, ground := Go.Ground.data }], guard := none }) (v := ?_) rfl (Or.inl ⟨by rfl, ?_⟩) ?_; rotate_left; (focus (intro w hSw; (try dsimp only at hSw); go_simp; (try (with_reducible rfl)); done)); try simp only [Act.put, List.setIfInBounds_toArray, List.set_cons_zero, List.set_cons_succ])
        refine wpL_nil ?_
        refine NoPanic.normal ?_
        have r0 := HQ1.out.cell 0 (.int .i64 kd) rfl
        have r1 := HQ1.out.cell 1 (.int .i64 (j : Int)) rfl
        have c1 := HQ1.out.c1
        clear CW
        have CE := HQ1.out.enter (j : Int)
        rw [HZ.out, if_neg (by decide)] at CE
        have CE := Lib.hid CE
        go_wp2_with fail
        refine CE.out.mono ?_
        rintro x wp ⟨rfl, q4⟩
        have HQ2 := Lib.hid q4
        clear q4 CE HQ1 hHeld
        go_wp2_with fail
        go_ret
        exact HQ2.out.fin rfl (Nat.le_refl _) rfl
  · have hlo : i < 0 ∨ 8 ≤ i := by omega
    have HZ := Lib.hid (add_out (S := s.S) hlo)
    have hlo : ¬ 0 ≤ i ∨ (0 ≤ i ∧ ¬ i < 8) := by omega
    have CE := HQ.out.enter i
    rw [HZ.out, if_neg (by decide)] at CE
    have CE := Lib.hid CE
    clear hin
    rcases hlo with hlo | ⟨hlo, hlo2⟩
    · as_aux_lemma =>
      go_wp2_with fail
      refine CE.out.mono ?_
      rintro x wp ⟨rfl, q4⟩
      have HQ2 := Lib.hid q4
      clear q4 CE
      go_wp2_with fail
      go_ret
      exact HQ2.out.fin rfl (Nat.le_refl _) rfl
    · as_aux_lemma =>
      go_wp2_with fail
      refine CE.out.mono ?_
      rintro x wp ⟨rfl, q4⟩
      have HQ2 := Lib.hid q4
      clear q4 CE
      go_wp2_with fail
      go_ret
      exact HQ2.out.fin rfl (Nat.le_refl _) rfl
set_option maxRecDepth 100000 in
set_option maxHeartbeats 8000000 in
theorem slot5_any (kd i : Int) (hkd : kd = 5) (b : Sb B w p h e P H E s s) : Calls Try.prog 23 #[.pointer (some ⟨p, 0, none⟩), .pointer (some ⟨P, 0, none⟩), .agg #[.int .i64 kd, .int .i64 i]] w (DoQ B p h e P H E s.k w) := by
  obtain ⟨w1, a, HW, HA, HQ⟩ := sa_start b #[.int .i64 kd, .int .i64 i]
  clear b
  have r0 := HQ.out.cell 0 (.int .i64 kd) rfl
  have r1 := HQ.out.cell 1 (.int .i64 i) rfl
  have c1 := HQ.out.c1
  subst hkd
  obtain ⟨kd, hkd⟩ : ∃ kd : Int, Hid (kd = 5) := ⟨5, Lib.hid rfl⟩
  rw [← hkd.out] at HW HQ r0 ⊢
  have t4 : (kd == 4) = false := by rw [hkd.out]; rfl
  have t5 : (kd == 5) = true := by rw [hkd.out]; rfl
  go_enter Try.func23, Try.ntmps23
  go_upto_region 1 with fail
  rw [HW.out, HA.out]
  clear HW HA
  by_cases hin : 0 ≤ i ∧ i < 8
  · obtain ⟨j, rfl⟩ : ∃ j : Nat, i = (j : Int) := ⟨i.toNat, by omega⟩
    have hj : j < 8 := by omega
    have hji : (j : Int) < 8 := hin.2
    clear hin
    rcases lvl_cases s.S j with ⟨hv, _⟩ | ⟨l, hl, hv, _⟩
    · as_aux_lemma =>
        have HL := Lib.hid hv
        have HZ := Lib.hid (mis_no hj hv)
        clear hv
        go_upto_region 5 with fail
        refine wp_region_lin (S := (fun w' => w'.cell? ⟨P, 1, none⟩ = some (.pointer (some ⟨E, 0, none⟩)) ∧ w'.cell? ⟨a, 1, none⟩ = some (.int .i64 (j : Int)))) [(0, true), (1, true), (2, true), (3, true), (4, true), (5, true), (6, false), (7, true)] (by kernel_rfl) (by kernel_rfl) rfl (by kernel_rfl) ?_ (fun hHeld => ?_)
        · (try dsimp only); exact ⟨c1, r1⟩
        have HQ1 := Lib.hid (HQ.out.below (Below.refl _ _).drew)
        clear c1 r1 r0 HQ
        generalize World.drew w1 = w2 at hHeld HQ1 ⊢
        have CW := HQ1.out.where_ j
        rw [HL.out] at CW
        have CW := Lib.hid CW
        (refine wpL_calm (o := { dst := some 20, op := Go.Op.move (Go.Operand.tmp 1), type := 25, pos := "law.go:41", after := #[], guard := none }) (v := ?_) rfl (Or.inl ⟨by rfl, ?_⟩) ?_; rotate_left; (focus (intro w hSw; (try dsimp only at hSw); go_simp; (try (with_reducible rfl)); done)); try simp only [Act.put, List.setIfInBounds_toArray, List.set_cons_zero, List.set_cons_succ])
        (refine wpL_calm (o := { dst := some 21, op := Go.Op.nilCheck (Go.Operand.tmp 20), type := 0, pos := "law.go:41", after := #[{ on := 0, ground := Go.Ground.data }], guard := none }) (v := ?_) rfl (Or.inl ⟨by rfl, ?_⟩) ?_; rotate_left; (focus (intro w hSw; (try dsimp only at hSw); go_simp; (try (with_reducible rfl)); done)); try simp only [Act.put, List.setIfInBounds_toArray, List.set_cons_zero, List.set_cons_succ])
        (refine wpL_calm (o := { dst := some 22, op := Go.Op.fieldAddr 61 (Go.Operand.tmp 21) 1, type := 0, pos := "law.go:41", after := #[{ on := 1, ground := Go.Ground.data }], guard := none }) (v := ?_) rfl (Or.inl ⟨by rfl, ?_⟩) ?_; rotate_left; (focus (intro w hSw; (try dsimp only at hSw); go_simp; (try (with_reducible rfl)); done)); try simp only [Act.put, List.setIfInBounds_toArray, List.set_cons_zero, List.set_cons_succ])
        (refine wpL_calm (o := { dst := some 23, op := Go.Op.load 56 (Go.Operand.tmp 22), type := 56, pos := "law.go:41", after := #[{ on := 2, ground := Go.Ground.data }], guard := none }) (v := ?_) rfl (Or.inl ⟨by rfl, ?_⟩) ?_; rotate_left; (focus (intro w hSw; (try dsimp only at hSw); go_simp; (try (with_reducible rfl)); done)); try simp only [Act.put, List.setIfInBounds_toArray, List.set_cons_zero, List.set_cons_succ])
        (refine wpL_calm (o := { dst := some 24, op := Go.Op.fieldAddr 30 (Go.Operand.tmp 5) 1, type := 0, pos := "law.go:41", after := #[], guard := none }) (v := ?_) rfl (Or.inl ⟨by rfl, ?_⟩) ?_; rotate_left; (focus (intro w hSw; (try dsimp only at hSw); go_simp; (try (with_reducible rfl)); done)); try simp only [Act.put, List.setIfInBounds_toArray, List.set_cons_zero, List.set_cons_succ])
        (refine wpL_calm (o := { dst := some 25, op := Go.Op.load 3 (Go.Operand.tmp 24), type := 3, pos := "law.go:41", after := #[{ on := 4, ground := Go.Ground.data }], guard := none }) (v := ?_) rfl (Or.inl ⟨by rfl, ?_⟩) ?_; rotate_left; (focus (intro w hSw; (try dsimp only at hSw); go_simp; (try (with_reducible rfl)); done)); try simp only [Act.put, List.setIfInBounds_toArray, List.set_cons_zero, List.set_cons_succ])
        refine wpL_loud1 (o := { dst := some 26, op := Go.Op.call { callee := Go.Callee.value (Go.Operand.func 25), args := #[Go.Operand.tmp 23, Go.Operand.tmp 25], argTypes := #[56, 3] }, type := 3, pos := "law.go:41", after := #[{ on := 3, ground := Go.Ground.data }, { on := 5, ground := Go.Ground.data }], guard := none }) rfl (fun K hK => ?_)
        (go_simp; go_at_call 25; refine CW.out.mono ?_; rintro x w3 ⟨rfl, rfl⟩)
        try go_wp2_with fail
        refine hK.out _ _ ?_ (fun hHeld => ?_)
        · (try dsimp only); try trivial
        clear hK K
        try simp only [Act.put, List.setIfInBounds_toArray, List.set_cons_zero, List.set_cons_succ]
        (refine wpL_calm (o := { dst := some 27, op := Go.Op.binOp Go.BinOp.lss 3 (Go.Operand.tmp 26) (Go.Operand.const (Go.Value.int Go.IntKind.i64 0)) 3, type := 4, pos := "law.go:41", after := #[{ on := 6, ground := Go.Ground.data }], guard := none }) (v := ?_) rfl (Or.inl ⟨by rfl, ?_⟩) ?_; rotate_left; (focus (intro w hSw; (try dsimp only at hSw); go_simp; (try (with_reducible rfl)); done)); try simp only [Act.put, List.setIfInBounds_toArray, List.set_cons_zero, List.set_cons_succ])
        refine wpL_nil ?_
        refine NoPanic.normal ?_
        have r0 := HQ1.out.cell 0 (.int .i64 kd) rfl
        have r1 := HQ1.out.cell 1 (.int .i64 (j : Int)) rfl
        have c1 := HQ1.out.c1
        clear CW
        have CE := HQ1.out.leave (j : Int)
        rw [leaS_no (by rw [HZ.out]; decide), setB_no (by rw [HZ.out]; decide), HZ.out] at CE
        have CE := Lib.hid CE
        go_wp2_with fail
        refine CE.out.mono ?_
        rintro x wp ⟨rfl, q4⟩
        have HQ2 := Lib.hid q4
        have r0 := q4.cell 0 (.int .i64 kd) rfl
        have r1 := q4.cell 1 (.int .i64 (j : Int)) rfl
        have c1 := q4.c1
        clear q4 CE HQ1 hHeld
        go_wp2_with fail
        go_ret
        exact HQ2.out.fin rfl (Nat.le_refl _) rfl
    · as_aux_lemma =>
        have HL := Lib.hid hv
        have hl0 : decide ((l : Int) < 0) = false := by simp
        have HLN : Hid (lvl s.S j ≠ -1) := Lib.hid (by rw [hv]; omega)
        have HZ := Lib.hid (mis_in hj HLN.out)
        clear hv
        go_upto_region 5 with fail
        refine wp_region_lin (S := (fun w' => w'.cell? ⟨P, 1, none⟩ = some (.pointer (some ⟨E, 0, none⟩)) ∧ w'.cell? ⟨a, 1, none⟩ = some (.int .i64 (j : Int)))) [(0, true), (1, true), (2, true), (3, true), (4, true), (5, true), (6, false), (7, true)] (by kernel_rfl) (by kernel_rfl) rfl (by kernel_rfl) ?_ (fun hHeld => ?_)
        · (try dsimp only); exact ⟨c1, r1⟩
        have HQ1 := Lib.hid (HQ.out.below (Below.refl _ _).drew)
        clear c1 r1 r0 HQ
        generalize World.drew w1 = w2 at hHeld HQ1 ⊢
        have CW := HQ1.out.where_ j
        rw [HL.out] at CW
        have CW := Lib.hid CW
        (refine wpL_calm (o := { dst := some 20, op := Go.Op.move (Go.Operand.tmp 1), type := 25, pos := "law.go:41", after := #[], guard := none }) (v := ?_) rfl (Or.inl ⟨by rfl, ?_⟩) ?_; rotate_left; (focus (intro w hSw; (try dsimp only at hSw); go_simp; (try (with_reducible rfl)); done)); try simp only [Act.put, List.setIfInBounds_toArray, List.set_cons_zero, List.set_cons_succ])
        (refine wpL_calm (o := { dst := some 21, op := Go.Op.nilCheck (Go.Operand.tmp 20), type := 0, pos := "law.go:41", after := #[{ on := 0, ground := Go.Ground.data }], guard := none }) (v := ?_) rfl (Or.inl ⟨by rfl, ?_⟩) ?_; rotate_left; (focus (intro w hSw; (try dsimp only at hSw); go_simp; (try (with_reducible rfl)); done)); try simp only [Act.put, List.setIfInBounds_toArray, List.set_cons_zero, List.set_cons_succ])
        (refine wpL_calm (o := { dst := some 22, op := Go.Op.fieldAddr 61 (Go.Operand.tmp 21) 1, type := 0, pos := "law.go:41", after := #[{ on := 1, ground := Go.Ground.data }], guard := none }) (v := ?_) rfl (Or.inl ⟨by rfl, ?_⟩) ?_; rotate_left; (focus (intro w hSw; (try dsimp only at hSw); go_simp; (try (with_reducible rfl)); done)); try simp only [Act.put, List.setIfInBounds_toArray, List.set_cons_zero, List.set_cons_succ])
        (refine wpL_calm (o := { dst := some 23, op := Go.Op.load 56 (Go.Operand.tmp 22), type := 56, pos := "law.go:41", after := #[{ on := 2, ground := Go.Ground.data }], guard := none }) (v := ?_) rfl (Or.inl ⟨by rfl, ?_⟩) ?_; rotate_left; (focus (intro w hSw; (try dsimp only at hSw); go_simp; (try (with_reducible rfl)); done)); try simp only [Act.put, List.setIfInBounds_toArray, List.set_cons_zero, List.set_cons_succ])
        (refine wpL_calm (o := { dst := some 24, op := Go.Op.fieldAddr 30 (Go.Operand.tmp 5) 1, type := 0, pos := "law.go:41", after := #[], guard := none }) (v := ?_) rfl (Or.inl ⟨by rfl, ?_⟩) ?_; rotate_left; (focus (intro w hSw; (try dsimp only at hSw); go_simp; (try (with_reducible rfl)); done)); try simp only [Act.put, List.setIfInBounds_toArray, List.set_cons_zero, List.set_cons_succ])
        (refine wpL_calm (o := { dst := some 25, op := Go.Op.load 3 (Go.Operand.tmp 24), type := 3, pos := "law.go:41", after := #[{ on := 4, ground := Go.Ground.data }], guard := none }) (v := ?_) rfl (Or.inl ⟨by rfl, ?_⟩) ?_; rotate_left; (focus (intro w hSw; (try dsimp only at hSw); go_simp; (try (with_reducible rfl)); done)); try simp only [Act.put, List.setIfInBounds_toArray, List.set_cons_zero, List.set_cons_succ])
        refine wpL_loud1 (o := { dst := some 26, op := Go.Op.call { callee := Go.Callee.value (Go.Operand.func 25), args := #[Go.Operand.tmp 23, Go.Operand.tmp 25], argTypes := #[56, 3] }, type := 3, pos := "law.go:41", after := #[{ on := 3, ground := Go.Ground.data }, { on := 5, ground := Go.Ground.data }], guard := none }) rfl (fun K hK => ?_)
        (go_simp; go_at_call 25; refine CW.out.mono ?_; rintro x w3 ⟨rfl, rfl⟩)
        try go_wp2_with fail
        refine hK.out _ _ ?_ (fun hHeld => ?_)
        · (try dsimp only); try trivial
        clear hK K
        try simp only [Act.put, List.setIfInBounds_toArray, List.set_cons_zero, List.set_cons_succ]
        (refine wpL_calm (o := { dst := some 27, op := Go.Op.binOp Go.BinOp.lss 3 (Go.Operand.tmp 26) (Go.Operand.const (Go.Value.int Go.IntKind.i64 0)) 3, type := 4, pos := "law.go:41", after := #[{ on := 6, ground := Go.Ground.data }], guard := none }) (v := ?_) rfl (Or.inl ⟨by rfl, ?_⟩) ?_; rotate_left; (focus (intro w hSw; (try dsimp only at hSw); go_simp; (try (with_reducible rfl)); done)); try simp only [Act.put, List.setIfInBounds_toArray, List.set_cons_zero, List.set_cons_succ])
        refine wpL_nil ?_
        refine NoPanic.normal ?_
        have r0 := HQ1.out.cell 0 (.int .i64 kd) rfl
        have r1 := HQ1.out.cell 1 (.int .i64 (j : Int)) rfl
        have c1 := HQ1.out.c1
        clear CW
        clear hHeld
        go_upto_region 18 with fail
        refine wp_region_lin (S := (fun w' => w'.cell? ⟨P, 1, none⟩ = some (.pointer (some ⟨E, 0, none⟩)) ∧ w'.cell? ⟨a, 1, none⟩ = some (.int .i64 (j : Int)))) [(0, true), (1, true), (2, true), (3, true), (4, true), (5, true), (6, false)] (by kernel_rfl) (by kernel_rfl) rfl (by kernel_rfl) ?_ (fun hHeld => ?_)
        · (try dsimp only); exact ⟨c1, r1⟩
        have HQ1d := Lib.hid (HQ1.out.below (Below.refl _ _).drew)
        clear c1 r1 r0 HQ1
        generalize World.drew w2 = wd at hHeld HQ1d ⊢
        have CP := Lib.hid (HQ1d.out.rremove j)
        (refine wpL_calm (o := { dst := some 57, op := Go.Op.move (Go.Operand.tmp 1), type := 25, pos := "law.go:57", after := #[], guard := none }) (v := ?_) rfl (Or.inl ⟨by rfl, ?_⟩) ?_; rotate_left; (focus (intro w hSw; (try dsimp only at hSw); go_simp; (try (with_reducible rfl)); done)); try simp only [Act.put, List.setIfInBounds_toArray, List.set_cons_zero, List.set_cons_succ])
        (refine wpL_calm (o := { dst := some 58, op := Go.Op.nilCheck (Go.Operand.tmp 57), type := 0, pos := "law.go:57", after := #[{ on := 0, ground := Go.Ground.data }], guard := none }) (v := ?_) rfl (Or.inl ⟨by rfl, ?_⟩) ?_; rotate_left; (focus (intro w hSw; (try dsimp only at hSw); go_simp; (try (with_reducible rfl)); done)); try simp only [Act.put, List.setIfInBounds_toArray, List.set_cons_zero, List.set_cons_succ])
        (refine wpL_calm (o := { dst := some 59, op := Go.Op.fieldAddr 61 (Go.Operand.tmp 58) 1, type := 0, pos := "law.go:57", after := #[{ on := 1, ground := Go.Ground.data }], guard := none }) (v := ?_) rfl (Or.inl ⟨by rfl, ?_⟩) ?_; rotate_left; (focus (intro w hSw; (try dsimp only at hSw); go_simp; (try (with_reducible rfl)); done)); try simp only [Act.put, List.setIfInBounds_toArray, List.set_cons_zero, List.set_cons_succ])
        (refine wpL_calm (o := { dst := some 60, op := Go.Op.load 56 (Go.Operand.tmp 59), type := 56, pos := "law.go:57", after := #[{ on := 2, ground := Go.Ground.data }], guard := none }) (v := ?_) rfl (Or.inl ⟨by rfl, ?_⟩) ?_; rotate_left; (focus (intro w hSw; (try dsimp only at hSw); go_simp; (try (with_reducible rfl)); done)); try simp only [Act.put, List.setIfInBounds_toArray, List.set_cons_zero, List.set_cons_succ])
        (refine wpL_calm (o := { dst := some 61, op := Go.Op.fieldAddr 30 (Go.Operand.tmp 5) 1, type := 0, pos := "law.go:57", after := #[], guard := none }) (v := ?_) rfl (Or.inl ⟨by rfl, ?_⟩) ?_; rotate_left; (focus (intro w hSw; (try dsimp only at hSw); go_simp; (try (with_reducible rfl)); done)); try simp only [Act.put, List.setIfInBounds_toArray, List.set_cons_zero, List.set_cons_succ])
        (refine wpL_calm (o := { dst := some 62, op := Go.Op.load 3 (Go.Operand.tmp 61), type := 3, pos := "law.go:57", after := #[{ on := 4, ground := Go.Ground.data }], guard := none }) (v := ?_) rfl (Or.inl ⟨by rfl, ?_⟩) ?_; rotate_left; (focus (intro w hSw; (try dsimp only at hSw); go_simp; (try (with_reducible rfl)); done)); try simp only [Act.put, List.setIfInBounds_toArray, List.set_cons_zero, List.set_cons_succ])
        refine wpL_loud0 (o := { dst := some 63, op := Go.Op.call { callee := Go.Callee.value (Go.Operand.func 37), args := #[Go.Operand.tmp 60, Go.Operand.tmp 62], argTypes := #[56, 3] }, type := 0, pos := "law.go:57", after := #[{ on := 3, ground := Go.Ground.data }, { on := 5, ground := Go.Ground.data }], guard := none }) rfl (by kernel_rfl) (fun K hK => ?_)
        (go_simp; go_at_call 37; refine CP.out.mono ?_; rintro x wq ⟨rfl, q5⟩)
        try go_wp2_with fail
        refine hK.out _ _ ?_
        clear hK K
        try simp only [Act.put, List.setIfInBounds_toArray, List.set_cons_zero, List.set_cons_succ]
        refine wpL_nil ?_
        refine NoPanic.normal ?_
        have HQ2 := Lib.hid q5
        clear q5 CP HQ1d hHeld
        have r0 := HQ2.out.cell 0 (.int .i64 kd) rfl
        have r1 := HQ2.out.cell 1 (.int .i64 (j : Int)) rfl
        have c1 := HQ2.out.c1
        have cu := HQ2.out.b.px.cU (j := j) hj
        try go_upto_region 19 with fail
        refine wp_region_lin (S := (fun w' => w'.cell? ⟨P, 66 + j, none⟩ = some (.bool (s.U j)) ∧ w'.cell? ⟨a, 1, none⟩ = some (.int .i64 (j : Int)))) [(0, true), (1, true), (2, true), (3, true), (4, true), (5, true), (6, false)] (by kernel_rfl) (by kernel_rfl) rfl (by kernel_rfl) ?_ (fun hHeld => ?_)
        · (try dsimp only); exact ⟨cu, r1⟩
        have HQ2d := Lib.hid (HQ2.out.below (Below.refl _ _).drew)
        clear r1 r0 cu c1 HQ2
        generalize World.drew wq = wd at hHeld HQ2d ⊢
        have fc := HQ2d.out.b.px.free (66 + j)
        (refine wpL_calm (o := { dst := some 64, op := Go.Op.move (Go.Operand.tmp 1), type := 25, pos := "law.go:58", after := #[], guard := none }) (v := ?_) rfl (Or.inl ⟨by rfl, ?_⟩) ?_; rotate_left; (focus (intro w hSw; (try dsimp only at hSw); go_simp; (try (with_reducible rfl)); done)); try simp only [Act.put, List.setIfInBounds_toArray, List.set_cons_zero, List.set_cons_succ])
        (refine wpL_calm (o := { dst := some 65, op := Go.Op.fieldAddr 30 (Go.Operand.tmp 5) 1, type := 0, pos := "law.go:58", after := #[], guard := none }) (v := ?_) rfl (Or.inl ⟨by rfl, ?_⟩) ?_; rotate_left; (focus (intro w hSw; (try dsimp only at hSw); go_simp; (try (with_reducible rfl)); done)); try simp only [Act.put, List.setIfInBounds_toArray, List.set_cons_zero, List.set_cons_succ])
        (refine wpL_calm (o := { dst := some 66, op := Go.Op.load 3 (Go.Operand.tmp 65), type := 3, pos := "law.go:58", after := #[{ on := 1, ground := Go.Ground.data }], guard := none }) (v := ?_) rfl (Or.inl ⟨by rfl, ?_⟩) ?_; rotate_left; (focus (intro w hSw; (try dsimp only at hSw); go_simp; (try (with_reducible rfl)); done)); try simp only [Act.put, List.setIfInBounds_toArray, List.set_cons_zero, List.set_cons_succ])
        (refine wpL_calm (o := { dst := some 67, op := Go.Op.nilCheck (Go.Operand.tmp 64), type := 0, pos := "law.go:58", after := #[{ on := 0, ground := Go.Ground.data }], guard := none }) (v := ?_) rfl (Or.inl ⟨by rfl, ?_⟩) ?_; rotate_left; (focus (intro w hSw; (try dsimp only at hSw); go_simp; (try (with_reducible rfl)); done)); try simp only [Act.put, List.setIfInBounds_toArray, List.set_cons_zero, List.set_cons_succ])
        (refine wpL_calm (o := { dst := some 68, op := Go.Op.fieldAddr 61 (Go.Operand.tmp 67) 3, type := 0, pos := "law.go:58", after := #[{ on := 3, ground := Go.Ground.data }], guard := none }) (v := ?_) rfl (Or.inl ⟨by rfl, ?_⟩) ?_; rotate_left; (focus (intro w hSw; (try dsimp only at hSw); go_simp; (try (with_reducible rfl)); done)); try simp only [Act.put, List.setIfInBounds_toArray, List.set_cons_zero, List.set_cons_succ])
        (refine wpL_calm (o := { dst := some 69, op := Go.Op.indexAddr 34 (Go.Operand.tmp 68) (Go.Operand.tmp 66), type := 0, pos := "law.go:58", after := #[{ on := 4, ground := Go.Ground.data }, { on := 2, ground := Go.Ground.data }, { on := 0, ground := Go.Ground.phase }, { on := 1, ground := Go.Ground.phase }, { on := 2, ground := Go.Ground.phase }], guard := none }) (v := ?_) rfl (Or.inl ⟨by rfl, ?_⟩) ?_; rotate_left; (focus (intro w hSw; (try dsimp only at hSw); go_simp; (try (with_reducible rfl)); done)); try simp only [Act.put, List.setIfInBounds_toArray, List.set_cons_zero, List.set_cons_succ])
        refine wpL_loud0 (o := { dst := none, op := Go.Op.store 4 (Go.Operand.tmp 69) (Go.Operand.const (Go.Value.bool false)), type := 0, pos := "law.go:58", after := #[{ on := 5, ground := Go.Ground.data }, { on := 0, ground := Go.Ground.phase }, { on := 1, ground := Go.Ground.phase }, { on := 2, ground := Go.Ground.phase }], guard := none }) rfl (by kernel_rfl) (fun K hK => ?_)
        go_simp
        refine hK.out _ _ ?_
        clear hK K
        try simp only [Act.put, List.setIfInBounds_toArray, List.set_cons_zero, List.set_cons_succ]
        refine wpL_nil ?_
        refine NoPanic.normal ?_
        have HQ3 := Lib.hid (HQ2d.out.setU hj false)
        clear HQ2d hHeld fc
        generalize World.setCell wd ⟨P, 66 + j, none⟩ (.bool false) = we at HQ3 ⊢
        have r0 := HQ3.out.cell 0 (.int .i64 kd) rfl
        have r1 := HQ3.out.cell 1 (.int .i64 (j : Int)) rfl
        have CE := HQ3.out.leave (j : Int)
        rw [leaS_in HZ.out, setB_in HZ.out, HZ.out] at CE
        have CE := Lib.hid CE
        go_wp2_with fail
        refine CE.out.mono ?_
        rintro x wp ⟨rfl, q4⟩
        have HQ4 := Lib.hid q4
        clear q4 CE HQ3
        go_wp2_with fail
        go_ret
        exact HQ4.out.fin rfl (Nat.le_refl _) rfl
  · have hlo : i < 0 ∨ 8 ≤ i := by omega
    have HZ := Lib.hid (mis_out (S := s.S) hlo)
    have hlo : ¬ 0 ≤ i ∨ (0 ≤ i ∧ ¬ i < 8) := by omega
    have CE := HQ.out.leave i
    rw [leaS_no (by rw [HZ.out]; decide), setB_no (by rw [HZ.out]; decide), HZ.out] at CE
    have CE := Lib.hid CE
    clear hin
    rcases hlo with hlo | ⟨hlo, hlo2⟩
    · as_aux_lemma =>
      go_wp2_with fail
      refine CE.out.mono ?_
      rintro x wp ⟨rfl, q4⟩
      have HQ2 := Lib.hid q4
      clear q4 CE
      go_wp2_with fail
      go_ret
      exact HQ2.out.fin rfl (Nat.le_refl _) rfl
    · as_aux_lemma =>
      go_wp2_with fail
      refine CE.out.mono ?_
      rintro x wp ⟨rfl, q4⟩
      have HQ2 := Lib.hid q4
      clear q4 CE
      go_wp2_with fail
      go_ret
      exact HQ2.out.fin rfl (Nat.le_refl _) rfl
set_option maxRecDepth 100000 in
set_option maxHeartbeats 8000000 in
theorem slotx_any (kd i : Int) (h4 : ¬ kd = 4) (h5 : ¬ kd = 5) (b : Sb B w p h e P H E s s) : Calls Try.prog 23 #[.pointer (some ⟨p, 0, none⟩), .pointer (some ⟨P, 0, none⟩), .agg #[.int .i64 kd, .int .i64 i]] w (DoQ B p h e P H E s.k w) := by
  obtain ⟨w1, a, HW, HA, HQ⟩ := sa_start b #[.int .i64 kd, .int .i64 i]
  clear b
  have r0 := HQ.out.cell 0 (.int .i64 kd) rfl
  have r1 := HQ.out.cell 1 (.int .i64 i) rfl
  have c1 := HQ.out.c1
  have t4 : (kd == 4) = false := by simpa using h4
  have t5 : (kd == 5) = false := by simpa using h5
  clear h4 h5
  go_enter Try.func23, Try.ntmps23
  go_upto_region 1 with fail
  rw [HW.out, HA.out]
  clear HW HA
  by_cases hin : 0 ≤ i ∧ i < 8
  · obtain ⟨j, rfl⟩ : ∃ j : Nat, i = (j : Int) := ⟨i.toNat, by omega⟩
    have hj : j < 8 := by omega
    have hji : (j : Int) < 8 := hin.2
    clear hin
    rcases lvl_cases s.S j with ⟨hv, _⟩ | ⟨l, hl, hv, _⟩
    · as_aux_lemma =>
        have HL := Lib.hid hv
        have HZ := Lib.hid (mis_no hj hv)
        clear hv
        go_upto_region 5 with fail
        refine wp_region_lin (S := (fun w' => w'.cell? ⟨P, 1, none⟩ = some (.pointer (some ⟨E, 0, none⟩)) ∧ w'.cell? ⟨a, 1, none⟩ = some (.int .i64 (j : Int)))) [(0, true), (1, true), (2, true), (3, true), (4, true), (5, true), (6, false), (7, true)] (by kernel_rfl) (by kernel_rfl) rfl (by kernel_rfl) ?_ (fun hHeld => ?_)
        · (try dsimp only); exact ⟨c1, r1⟩
        have HQ1 := Lib.hid (HQ.out.below (Below.refl _ _).drew)
        clear c1 r1 r0 HQ
        generalize World.drew w1 = w2 at hHeld HQ1 ⊢
        have CW := HQ1.out.where_ j
        rw [HL.out] at CW
        have CW := Lib.hid CW
        (refine wpL_calm (o := { dst := some 20, op := Go.Op.move (Go.Operand.tmp 1), type := 25, pos := "law.go:41", after := #[], guard := none }) (v := ?_) rfl (Or.inl ⟨by rfl, ?_⟩) ?_; rotate_left; (focus (intro w hSw; (try dsimp only at hSw); go_simp; (try (with_reducible rfl)); done)); try simp only [Act.put, List.setIfInBounds_toArray, List.set_cons_zero, List.set_cons_succ])
        (refine wpL_calm (o := { dst := some 21, op := Go.Op.nilCheck (Go.Operand.tmp 20), type := 0, pos := "law.go:41", after := #[{ on := 0, ground := Go.Ground.data }], guard := none }) (v := ?_) rfl (Or.inl ⟨by rfl, ?_⟩) ?_; rotate_left; (focus (intro w hSw; (try dsimp only at hSw); go_simp; (try (with_reducible rfl)); done)); try simp only [Act.put, List.setIfInBounds_toArray, List.set_cons_zero, List.set_cons_succ])
        (refine wpL_calm (o := { dst := some 22, op := Go.Op.fieldAddr 61 (Go.Operand.tmp 21) 1, type := 0, pos := "law.go:41", after := #[{ on := 1, ground := Go.Ground.data }], guard := none }) (v := ?_) rfl (Or.inl ⟨by rfl, ?_⟩) ?_; rotate_left; (focus (intro w hSw; (try dsimp only at hSw); go_simp; (try (with_reducible rfl)); done)); try simp only [Act.put, List.setIfInBounds_toArray, List.set_cons_zero, List.set_cons_succ])
        (refine wpL_calm (o := { dst := some 23, op := Go.Op.load 56 (Go.Operand.tmp 22), type := 56, pos := "law.go:41", after := #[{ on := 2, ground := Go.Ground.data }], guard := none }) (v := ?_) rfl (Or.inl ⟨by rfl, ?_⟩) ?_; rotate_left; (focus (intro w hSw; (try dsimp only at hSw); go_simp; (try (with_reducible rfl)); done)); try simp only [Act.put, List.setIfInBounds_toArray, List.set_cons_zero, List.set_cons_succ])
        (refine wpL_calm (o := { dst := some 24, op := Go.Op.fieldAddr 30 (Go.Operand.tmp 5) 1, type := 0, pos := "law.go:41", after := #[], guard := none }) (v := ?_) rfl (Or.inl ⟨by rfl, ?_⟩) ?_; rotate_left; (focus (intro w hSw; (try dsimp only at hSw); go_simp; (try (with_reducible rfl)); done)); try simp only [Act.put, List.setIfInBounds_toArray, List.set_cons_zero, List.set_cons_succ])
        (refine wpL_calm (o := { dst := some 25, op := Go.Op.load 3 (Go.Operand.tmp 24), type := 3, pos := "law.go:41", after := #[{ on := 4, ground := Go.Ground.data }], guard := none }) (v := ?_) rfl (Or.inl ⟨by rfl, ?_⟩) ?_; rotate_left; (focus (intro w hSw; (try dsimp only at hSw); go_simp; (try (with_reducible rfl)); done)); try simp only [Act.put, List.setIfInBounds_toArray, List.set_cons_zero, List.set_cons_succ])
        refine wpL_loud1 (o := { dst := some 26, op := Go.Op.call { callee := Go.Callee.value (Go.Operand.func 25), args := #[Go.Operand.tmp 23, Go.Operand.tmp 25], argTypes := #[56, 3] }, type := 3, pos := "law.go:41", after := #[{ on := 3, ground := Go.Ground.data }, { on := 5, ground := Go.Ground.data }], guard := none }) rfl (fun K hK => ?_)
        (go_simp; go_at_call 25; refine CW.out.mono ?_; rintro x w3 ⟨rfl, rfl⟩)
        try go_wp2_with fail
        refine hK.out _ _ ?_ (fun hHeld => ?_)
        · (try dsimp only); try trivial
        clear hK K
        try simp only [Act.put, List.setIfInBounds_toArray, List.set_cons_zero, List.set_cons_succ]
        (refine wpL_calm (o := { dst := some 27, op := Go.Op.binOp Go.BinOp.lss 3 (Go.Operand.tmp 26) (Go.Operand.const (Go.Value.int Go.IntKind.i64 0)) 3, type := 4, pos := "law.go:41", after := #[{ on := 6, ground := Go.Ground.data }], guard := none }) (v := ?_) rfl (Or.inl ⟨by rfl, ?_⟩) ?_; rotate_left; (focus (intro w hSw; (try dsimp only at hSw); go_simp; (try (with_reducible rfl)); done)); try simp only [Act.put, List.setIfInBounds_toArray, List.set_cons_zero, List.set_cons_succ])
        refine wpL_nil ?_
        refine NoPanic.normal ?_
        have r0 := HQ1.out.cell 0 (.int .i64 kd) rfl
        have r1 := HQ1.out.cell 1 (.int .i64 (j : Int)) rfl
        have c1 := HQ1.out.c1
        clear CW
        have CE := HQ1.out.use (j : Int)
        rw [useS_no (by rw [HZ.out]; decide), setB_no (by rw [HZ.out]; decide), HZ.out] at CE
        have CE := Lib.hid CE
        go_wp2_with fail
        refine CE.out.mono ?_
        rintro x wp ⟨rfl, q4⟩
        have HQ2 := Lib.hid q4
        have r0 := q4.cell 0 (.int .i64 kd) rfl
        have r1 := q4.cell 1 (.int .i64 (j : Int)) rfl
        have c1 := q4.c1
        clear q4 CE HQ1 hHeld
        go_wp2_with fail
        go_ret
        exact HQ2.out.fin rfl (Nat.le_refl _) rfl
    · as_aux_lemma =>
        have HL := Lib.hid hv
        have hl0 : decide ((l : Int) < 0) = false := by simp
        have HLN : Hid (lvl s.S j ≠ -1) := Lib.hid (by rw [hv]; omega)
        have HZ := Lib.hid (mis_in hj HLN.out)
        clear hv
        go_upto_region 5 with fail
        refine wp_region_lin (S := (fun w' => w'.cell? ⟨P, 1, none⟩ = some (.pointer (some ⟨E, 0, none⟩)) ∧ w'.cell? ⟨a, 1, none⟩ = some (.int .i64 (j : Int)))) [(0, true), (1, true), (2, true), (3, true), (4, true), (5, true), (6, false), (7, true)] (by kernel_rfl) (by kernel_rfl) rfl (by kernel_rfl) ?_ (fun hHeld => ?_)
        · (try dsimp only); exact ⟨c1, r1⟩
        have HQ1 := Lib.hid (HQ.out.below (Below.refl _ _).drew)
        clear c1 r1 r0 HQ
        generalize World.drew w1 = w2 at hHeld HQ1 ⊢
        have CW := HQ1.out.where_ j
        rw [HL.out] at CW
        have CW := Lib.hid CW
        (refine wpL_calm (o := { dst := some 20, op := Go.Op.move (Go.Operand.tmp 1), type := 25, pos := "law.go:41", after := #[], guard := none }) (v := ?_) rfl (Or.inl ⟨by rfl, ?_⟩) ?_; rotate_left; (focus (intro w hSw; (try dsimp only at hSw); go_simp; (try (with_reducible rfl)); done)); try simp only [Act.put, List.setIfInBounds_toArray, List.set_cons_zero, List.set_cons_succ])
        (refine wpL_calm (o := { dst := some 21, op := Go.Op.nilCheck (Go.Operand.tmp 20), type := 0, pos := "law.go:41", after := #[{ on := 0, ground := Go.Ground.data }], guard := none }) (v := ?_) rfl (Or.inl ⟨by rfl, ?_⟩) ?_; rotate_left; (focus (intro w hSw; (try dsimp only at hSw); go_simp; (try (with_reducible rfl)); done)); try simp only [Act.put, List.setIfInBounds_toArray, List.set_cons_zero, List.set_cons_succ])
        (refine wpL_calm (o := { dst := some 22, op := Go.Op.fieldAddr 61 (Go.Operand.tmp 21) 1, type := 0, pos := "law.go:41", after := #[{ on := 1, ground := Go.Ground.data }], guard := none }) (v := ?_) rfl (Or.inl ⟨by rfl, ?_⟩) ?_; rotate_left; (focus (intro w hSw; (try dsimp only at hSw); go_simp; (try (with_reducible rfl)); done)); try simp only [Act.put, List.setIfInBounds_toArray, List.set_cons_zero, List.set_cons_succ])
        (refine wpL_calm (o := { dst := some 23, op := Go.Op.load 56 (Go.Operand.tmp 22), type := 56, pos := "law.go:41", after := #[{ on := 2, ground := Go.Ground.data }], guard := none }) (v := ?_) rfl (Or.inl ⟨by rfl, ?_⟩) ?_; rotate_left; (focus (intro w hSw; (try dsimp only at hSw); go_simp; (try (with_reducible rfl)); done)); try simp only [Act.put, List.setIfInBounds_toArray, List.set_cons_zero, List.set_cons_succ])
        (refine wpL_calm (o := { dst := some 24, op := Go.Op.fieldAddr 30 (Go.Operand.tmp 5) 1, type := 0, pos := "law.go:41", after := #[], guard := none }) (v := ?_) rfl (Or.inl ⟨by rfl, ?_⟩) ?_; rotate_left; (focus (intro w hSw; (try dsimp only at hSw); go_simp; (try (with_reducible rfl)); done)); try simp only [Act.put, List.setIfInBounds_toArray, List.set_cons_zero, List.set_cons_succ])
        (refine wpL_calm (o := { dst := some 25, op := Go.Op.load 3 (Go.Operand.tmp 24), type := 3, pos := "law.go:41", after := #[{ on := 4, ground := Go.Ground.data }], guard := none }) (v := ?_) rfl (Or.inl ⟨by rfl, ?_⟩) ?_; rotate_left; (focus (intro w hSw; (try dsimp only at hSw); go_simp; (try (with_reducible rfl)); done)); try simp only [Act.put, List.setIfInBounds_toArray, List.set_cons_zero, List.set_cons_succ])
        refine wpL_loud1 (o := { dst := some 26, op := Go.Op.call { callee := Go.Callee.value (Go.Operand.func 25), args := #[Go.Operand.tmp 23, Go.Operand.tmp 25], argTypes := #[56, 3] }, type := 3, pos := "law.go:41", after := #[{ on := 3, ground := Go.Ground.data }, { on := 5, ground := Go.Ground.data }], guard := none }) rfl (fun K hK => ?_)
        (go_simp; go_at_call 25; refine CW.out.mono ?_; rintro x w3 ⟨rfl, rfl⟩)
        try go_wp2_with fail
        refine hK.out _ _ ?_ (fun hHeld => ?_)
        · (try dsimp only); try trivial
        clear hK K
        try simp only [Act.put, List.setIfInBounds_toArray, List.set_cons_zero, List.set_cons_succ]
        (refine wpL_calm (o := { dst := some 27, op := Go.Op.binOp Go.BinOp.lss 3 (Go.Operand.tmp 26) (Go.Operand.const (Go.Value.int Go.IntKind.i64 0)) 3, type := 4, pos := "law.go:41", after := #[{ on := 6, ground := Go.Ground.data }], guard := none }) (v := ?_) rfl (Or.inl ⟨by rfl, ?_⟩) ?_; rotate_left; (focus (intro w hSw; (try dsimp only at hSw); go_simp; (try (with_reducible rfl)); done)); try simp only [Act.put, List.setIfInBounds_toArray, List.set_cons_zero, List.set_cons_succ])
        refine wpL_nil ?_
        refine NoPanic.normal ?_
        have r0 := HQ1.out.cell 0 (.int .i64 kd) rfl
        have r1 := HQ1.out.cell 1 (.int .i64 (j : Int)) rfl
        have c1 := HQ1.out.c1
        clear CW
        clear hHeld
        go_upto_region 22 with fail
        refine wp_region_lin (S := (fun w' => w'.cell? ⟨P, 1, none⟩ = some (.pointer (some ⟨E, 0, none⟩)) ∧ w'.cell? ⟨a, 1, none⟩ = some (.int .i64 (j : Int)))) [(0, true), (1, true), (2, true), (3, true), (4, true), (5, true), (6, false)] (by kernel_rfl) (by kernel_rfl) rfl (by kernel_rfl) ?_ (fun hHeld => ?_)
        · (try dsimp only); exact ⟨c1, r1⟩
        have HQ1d := Lib.hid (HQ1.out.below (Below.refl _ _).drew)
        clear c1 r1 r0 HQ1
        generalize World.drew w2 = wd at hHeld HQ1d ⊢
        have CP := Lib.hid (HQ1d.out.rmove j 0 hj HLN.out (by omega) (by omega))
        (refine wpL_calm (o := { dst := some 78, op := Go.Op.move (Go.Operand.tmp 1), type := 25, pos := "law.go:63", after := #[], guard := none }) (v := ?_) rfl (Or.inl ⟨by rfl, ?_⟩) ?_; rotate_left; (focus (intro w hSw; (try dsimp only at hSw); go_simp; (try (with_reducible rfl)); done)); try simp only [Act.put, List.setIfInBounds_toArray, List.set_cons_zero, List.set_cons_succ])
        (refine wpL_calm (o := { dst := some 79, op := Go.Op.nilCheck (Go.Operand.tmp 78), type := 0, pos := "law.go:63", after := #[{ on := 0, ground := Go.Ground.data }], guard := none }) (v := ?_) rfl (Or.inl ⟨by rfl, ?_⟩) ?_; rotate_left; (focus (intro w hSw; (try dsimp only at hSw); go_simp; (try (with_reducible rfl)); done)); try simp only [Act.put, List.setIfInBounds_toArray, List.set_cons_zero, List.set_cons_succ])
        (refine wpL_calm (o := { dst := some 80, op := Go.Op.fieldAddr 61 (Go.Operand.tmp 79) 1, type := 0, pos := "law.go:63", after := #[{ on := 1, ground := Go.Ground.data }], guard := none }) (v := ?_) rfl (Or.inl ⟨by rfl, ?_⟩) ?_; rotate_left; (focus (intro w hSw; (try dsimp only at hSw); go_simp; (try (with_reducible rfl)); done)); try simp only [Act.put, List.setIfInBounds_toArray, List.set_cons_zero, List.set_cons_succ])
        (refine wpL_calm (o := { dst := some 81, op := Go.Op.load 56 (Go.Operand.tmp 80), type := 56, pos := "law.go:63", after := #[{ on := 2, ground := Go.Ground.data }], guard := none }) (v := ?_) rfl (Or.inl ⟨by rfl, ?_⟩) ?_; rotate_left; (focus (intro w hSw; (try dsimp only at hSw); go_simp; (try (with_reducible rfl)); done)); try simp only [Act.put, List.setIfInBounds_toArray, List.set_cons_zero, List.set_cons_succ])
        (refine wpL_calm (o := { dst := some 82, op := Go.Op.fieldAddr 30 (Go.Operand.tmp 5) 1, type := 0, pos := "law.go:63", after := #[], guard := none }) (v := ?_) rfl (Or.inl ⟨by rfl, ?_⟩) ?_; rotate_left; (focus (intro w hSw; (try dsimp only at hSw); go_simp; (try (with_reducible rfl)); done)); try simp only [Act.put, List.setIfInBounds_toArray, List.set_cons_zero, List.set_cons_succ])
        (refine wpL_calm (o := { dst := some 83, op := Go.Op.load 3 (Go.Operand.tmp 82), type := 3, pos := "law.go:63", after := #[{ on := 4, ground := Go.Ground.data }], guard := none }) (v := ?_) rfl (Or.inl ⟨by rfl, ?_⟩) ?_; rotate_left; (focus (intro w hSw; (try dsimp only at hSw); go_simp; (try (with_reducible rfl)); done)); try simp only [Act.put, List.setIfInBounds_toArray, List.set_cons_zero, List.set_cons_succ])
        refine wpL_loud0 (o := { dst := some 84, op := Go.Op.call { callee := Go.Callee.value (Go.Operand.func 34), args := #[Go.Operand.tmp 81, Go.Operand.tmp 83, Go.Operand.const (Go.Value.int Go.IntKind.i64 0)], argTypes := #[56, 3, 3] }, type := 0, pos := "law.go:63", after := #[{ on := 3, ground := Go.Ground.data }, { on := 5, ground := Go.Ground.data }], guard := none }) rfl (by kernel_rfl) (fun K hK => ?_)
        (go_simp; go_at_call 34; refine CP.out.mono ?_; rintro x wq ⟨rfl, q5⟩)
        try go_wp2_with fail
        refine hK.out _ _ ?_
        clear hK K
        try simp only [Act.put, List.setIfInBounds_toArray, List.set_cons_zero, List.set_cons_succ]
        refine wpL_nil ?_
        refine NoPanic.normal ?_
        have HQ2 := Lib.hid q5
        clear q5 CP HQ1d hHeld
        have r0 := HQ2.out.cell 0 (.int .i64 kd) rfl
        have r1 := HQ2.out.cell 1 (.int .i64 (j : Int)) rfl
        have c1 := HQ2.out.c1
        have cu := HQ2.out.b.px.cU (j := j) hj
        try go_upto_region 23 with fail
        refine wp_region_lin (S := (fun w' => w'.cell? ⟨P, 66 + j, none⟩ = some (.bool (s.U j)) ∧ w'.cell? ⟨a, 1, none⟩ = some (.int .i64 (j : Int)))) [(0, true), (1, true), (2, true), (3, true), (4, true), (5, true), (6, false)] (by kernel_rfl) (by kernel_rfl) rfl (by kernel_rfl) ?_ (fun hHeld => ?_)
        · (try dsimp only); exact ⟨cu, r1⟩
        have HQ2d := Lib.hid (HQ2.out.below (Below.refl _ _).drew)
        clear r1 r0 cu c1 HQ2
        generalize World.drew wq = wd at hHeld HQ2d ⊢
        have fc := HQ2d.out.b.px.free (66 + j)
        (refine wpL_calm (o := { dst := some 85, op := Go.Op.move (Go.Operand.tmp 1), type := 25, pos := "law.go:64", after := #[], guard := none }) (v := ?_) rfl (Or.inl ⟨by rfl, ?_⟩) ?_; rotate_left; (focus (intro w hSw; (try dsimp only at hSw); go_simp; (try (with_reducible rfl)); done)); try simp only [Act.put, List.setIfInBounds_toArray, List.set_cons_zero, List.set_cons_succ])
        (refine wpL_calm (o := { dst := some 86, op := Go.Op.fieldAddr 30 (Go.Operand.tmp 5) 1, type := 0, pos := "law.go:64", after := #[], guard := none }) (v := ?_) rfl (Or.inl ⟨by rfl, ?_⟩) ?_; rotate_left; (focus (intro w hSw; (try dsimp only at hSw); go_simp; (try (with_reducible rfl)); done)); try simp only [Act.put, List.setIfInBounds_toArray, List.set_cons_zero, List.set_cons_succ])
        (refine wpL_calm (o := { dst := some 87, op := Go.Op.load 3 (Go.Operand.tmp 86), type := 3, pos := "law.go:64", after := #[{ on := 1, ground := Go.Ground.data }], guard := none }) (v := ?_) rfl (Or.inl ⟨by rfl, ?_⟩) ?_; rotate_left; (focus (intro w hSw; (try dsimp only at hSw); go_simp; (try (with_reducible rfl)); done)); try simp only [Act.put, List.setIfInBounds_toArray, List.set_cons_zero, List.set_cons_succ])
        (refine wpL_calm (o := { dst := some 88, op := Go.Op.nilCheck (Go.Operand.tmp 85), type := 0, pos := "law.go:64", after := #[{ on := 0, ground := Go.Ground.data }], guard := none }) (v := ?_) rfl (Or.inl ⟨by rfl, ?_⟩) ?_; rotate_left; (focus (intro w hSw; (try dsimp only at hSw); go_simp; (try (with_reducible rfl)); done)); try simp only [Act.put, List.setIfInBounds_toArray, List.set_cons_zero, List.set_cons_succ])
        (refine wpL_calm (o := { dst := some 89, op := Go.Op.fieldAddr 61 (Go.Operand.tmp 88) 3, type := 0, pos := "law.go:64", after := #[{ on := 3, ground := Go.Ground.data }], guard := none }) (v := ?_) rfl (Or.inl ⟨by rfl, ?_⟩) ?_; rotate_left; (focus (intro w hSw; (try dsimp only at hSw); go_simp; (try (with_reducible rfl)); done)); try simp only [Act.put, List.setIfInBounds_toArray, List.set_cons_zero, List.set_cons_succ])
        (refine wpL_calm (o := { dst := some 90, op := Go.Op.indexAddr 34 (Go.Operand.tmp 89) (Go.Operand.tmp 87), type := 0, pos := "law.go:64", after := #[{ on := 4, ground := Go.Ground.data }, { on := 2, ground := Go.Ground.data }, { on := 0, ground := Go.Ground.phase }, { on := 1, ground := Go.Ground.phase }, { on := 2, ground := Go.Ground.phase }], guard := none }) (v := ?_) rfl (Or.inl ⟨by rfl, ?_⟩) ?_; rotate_left; (focus (intro w hSw; (try dsimp only at hSw); go_simp; (try (with_reducible rfl)); done)); try simp only [Act.put, List.setIfInBounds_toArray, List.set_cons_zero, List.set_cons_succ])
        refine wpL_loud0 (o := { dst := none, op := Go.Op.store 4 (Go.Operand.tmp 90) (Go.Operand.const (Go.Value.bool true)), type := 0, pos := "law.go:64", after := #[{ on := 5, ground := Go.Ground.data }, { on := 0, ground := Go.Ground.phase }, { on := 1, ground := Go.Ground.phase }, { on := 2, ground := Go.Ground.phase }], guard := none }) rfl (by kernel_rfl) (fun K hK => ?_)
        go_simp
        refine hK.out _ _ ?_
        clear hK K
        try simp only [Act.put, List.setIfInBounds_toArray, List.set_cons_zero, List.set_cons_succ]
        refine wpL_nil ?_
        refine NoPanic.normal ?_
        have HQ3 := Lib.hid (HQ2d.out.setU hj true)
        clear HQ2d hHeld fc
        generalize World.setCell wd ⟨P, 66 + j, none⟩ (.bool true) = we at HQ3 ⊢
        have r0 := HQ3.out.cell 0 (.int .i64 kd) rfl
        have r1 := HQ3.out.cell 1 (.int .i64 (j : Int)) rfl
        have CE := HQ3.out.use (j : Int)
        rw [useS_in HZ.out, setB_in HZ.out, HZ.out] at CE
        have CE := Lib.hid CE
        go_wp2_with fail
        refine CE.out.mono ?_
        rintro x wp ⟨rfl, q4⟩
        have HQ4 := Lib.hid q4
        clear q4 CE HQ3
        go_wp2_with fail
        go_ret
        exact HQ4.out.fin rfl (Nat.le_refl _) rfl
  · have hlo : i < 0 ∨ 8 ≤ i := by omega
    have HZ := Lib.hid (mis_out (S := s.S) hlo)
    have hlo : ¬ 0 ≤ i ∨ (0 ≤ i ∧ ¬ i < 8) := by omega
    have CE := HQ.out.use i
    rw [useS_no (by rw [HZ.out]; decide), setB_no (by rw [HZ.out]; decide), HZ.out] at CE
    have CE := Lib.hid CE
    clear hin
    rcases hlo with hlo | ⟨hlo, hlo2⟩
    · as_aux_lemma =>
      go_wp2_with fail
      refine CE.out.mono ?_
      rintro x wp ⟨rfl, q4⟩
      have HQ2 := Lib.hid q4
      clear q4 CE
      go_wp2_with fail
      go_ret
      exact HQ2.out.fin rfl (Nat.le_refl _) rfl
    · as_aux_lemma =>
      go_wp2_with fail
      refine CE.out.mono ?_
      rintro x wp ⟨rfl, q4⟩
      have HQ2 := Lib.hid q4
      clear q4 CE
      go_wp2_with fail
      go_ret
      exact HQ2.out.fin rfl (Nat.le_refl _) rfl
end
end Go.Proofs.Ytfkepplpeakgmaa

/- Package smq: the law's do. -/
namespace Go.Proofs.Ytfkepplpeakgmaa
open Go.RowKit Go.Deep
set_option linter.unusedVariables false
set_option linter.unusedSimpArgs false
theorem DoQ.mk2 {B p h e P H E k0 k1 : Nat} {w0 w1 w2 : World} (d : ∃ s : St, s.k ≤ k0 ∧ Sb B w2 p h e P H E s s ∧ Kq B [p, h, e, P, H, E] w1 w2) (k : Kq B [p, h, e, P, H, E] w0 w1) (hk : k0 ≤ k1) : DoQ B p h e P H E k1 w0 (.returned (.bool true)) w2 := by
  obtain ⟨s, h1, h2, h3⟩ := d
  exact ⟨rfl, s, Nat.le_trans h1 hk, h2, k.trans h3⟩
theorem DoQ.post {B p h e P H E k0 : Nat} {w0 w1 : World} {x : Ending} (d : DoQ B p h e P H E k0 w0 x w1) : x = .returned (.bool true) ∧ Hid (∃ s : St, s.k ≤ k0 ∧ Sb B w1 p h e P H E s s ∧ Kq B [p, h, e, P, H, E] w0 w1) := ⟨d.1, Lib.hid d.2⟩
section
variable {B p h e P H E : Nat} {w : World} {s : St}
set_option maxRecDepth 100000 in
set_option maxHeartbeats 8000000 in
theorem dohit0_any (kd i : Int) (hkd : kd = 0) (b : Sb B w p h e P H E s s) : Calls Try.prog 9 #[.pointer (some ⟨p, 0, none⟩), .pointer (some ⟨P, 0, none⟩), .agg #[.int .i64 kd, .int .i64 i]] w (DoQ B p h e P H E (s.k + 1) w) := by
  obtain ⟨w1, a, HW, HA, HQ⟩ := sa_start b #[.int .i64 kd, .int .i64 i]
  clear b
  have r0 := HQ.out.cell 0 (.int .i64 kd) rfl
  have r1 := HQ.out.cell 1 (.int .i64 i) rfl
  subst hkd
  go_enter Try.func9, Try.ntmps9
  go_upto_region 1 with fail
  rw [HW.out, HA.out]
  clear HW HA
  by_cases hin : 0 ≤ i ∧ i < 16
  · obtain ⟨j, rfl⟩ : ∃ j : Nat, i = (j : Int) := ⟨i.toNat, by omega⟩
    have hj : j < 16 := by omega
    have hji : ¬ 15 < (j : Int) := by omega
    have hji0 : ¬ (j : Int) < 0 := by omega
    clear hin
    have CH := Lib.hid (HQ.out.hit j hj)
    go_wp2_with fail
    refine CH.out.mono ?_
    rintro x w2 ⟨rfl, q2⟩
    have HQ2 := Lib.hid q2
    have r0 := q2.cell 0 (.int .i64 0) rfl
    have r1 := q2.cell 1 (.int .i64 (j : Int)) rfl
    clear q2 CH
    have CH := Lib.hid (HQ2.out.rhit j hj)
    go_wp2_with fail
    refine CH.out.mono ?_
    rintro x w3 ⟨rfl, q3⟩
    have HQ3 := Lib.hid q3
    clear q3 CH
    go_wp2_with fail
    go_ret
    exact HQ3.out.fin rfl (Nat.le_succ _) rfl
  · have hlo : i < 0 ∨ 16 ≤ i := by omega
    have CH := Lib.hid (HQ.out.hit_no i hlo)
    have hlo : i < 0 ∨ (¬ i < 0 ∧ 15 < i) := by omega
    clear hin
    rcases hlo with hlo | ⟨hlo, hlo2⟩
    all_goals
      go_wp2_with fail
      refine CH.out.mono ?_
      rintro x w2 ⟨rfl, rfl⟩
      go_wp2_with fail
      go_ret
      exact HQ.out.fin rfl (Nat.le_succ _) rfl
set_option maxRecDepth 100000 in
set_option maxHeartbeats 8000000 in
theorem dohit1_any (kd i : Int) (hkd : kd = 1) (b : Sb B w p h e P H E s s) : Calls Try.prog 9 #[.pointer (some ⟨p, 0, none⟩), .pointer (some ⟨P, 0, none⟩), .agg #[.int .i64 kd, .int .i64 i]] w (DoQ B p h e P H E (s.k + 1) w) := by
  obtain ⟨w1, a, HW, HA, HQ⟩ := sa_start b #[.int .i64 kd, .int .i64 i]
  clear b
  have r0 := HQ.out.cell 0 (.int .i64 kd) rfl
  have r1 := HQ.out.cell 1 (.int .i64 i) rfl
  subst hkd
  go_enter Try.func9, Try.ntmps9
  go_upto_region 1 with fail
  rw [HW.out, HA.out]
  clear HW HA
  by_cases hin : 0 ≤ i ∧ i < 16
  · obtain ⟨j, rfl⟩ : ∃ j : Nat, i = (j : Int) := ⟨i.toNat, by omega⟩
    have hj : j < 16 := by omega
    have hji : ¬ 15 < (j : Int) := by omega
    have hji0 : ¬ (j : Int) < 0 := by omega
    clear hin
    have CH := Lib.hid (HQ.out.hit j hj)
    go_wp2_with fail
    refine CH.out.mono ?_
    rintro x w2 ⟨rfl, q2⟩
    have HQ2 := Lib.hid q2
    have r0 := q2.cell 0 (.int .i64 1) rfl
    have r1 := q2.cell 1 (.int .i64 (j : Int)) rfl
    clear q2 CH
    have CH := Lib.hid (HQ2.out.rhit j hj)
    go_wp2_with fail
    refine CH.out.mono ?_
    rintro x w3 ⟨rfl, q3⟩
    have HQ3 := Lib.hid q3
    clear q3 CH
    go_wp2_with fail
    go_ret
    exact HQ3.out.fin rfl (Nat.le_succ _) rfl
  · have hlo : i < 0 ∨ 16 ≤ i := by omega
    have CH := Lib.hid (HQ.out.hit_no i hlo)
    have hlo : i < 0 ∨ (¬ i < 0 ∧ 15 < i) := by omega
    clear hin
    rcases hlo with hlo | ⟨hlo, hlo2⟩
    all_goals
      go_wp2_with fail
      refine CH.out.mono ?_
      rintro x w2 ⟨rfl, rfl⟩
      go_wp2_with fail
      go_ret
      exact HQ.out.fin rfl (Nat.le_succ _) rfl
set_option maxRecDepth 100000 in
set_option maxHeartbeats 8000000 in
theorem dohit2_any (kd i : Int) (hkd : kd = 2) (b : Sb B w p h e P H E s s) : Calls Try.prog 9 #[.pointer (some ⟨p, 0, none⟩), .pointer (some ⟨P, 0, none⟩), .agg #[.int .i64 kd, .int .i64 i]] w (DoQ B p h e P H E (s.k + 1) w) := by
  obtain ⟨w1, a, HW, HA, HQ⟩ := sa_start b #[.int .i64 kd, .int .i64 i]
  clear b
  have r0 := HQ.out.cell 0 (.int .i64 kd) rfl
  have r1 := HQ.out.cell 1 (.int .i64 i) rfl
  subst hkd
  go_enter Try.func9, Try.ntmps9
  go_upto_region 1 with fail
  rw [HW.out, HA.out]
  clear HW HA
  by_cases hin : 0 ≤ i ∧ i < 16
  · obtain ⟨j, rfl⟩ : ∃ j : Nat, i = (j : Int) := ⟨i.toNat, by omega⟩
    have hj : j < 16 := by omega
    have hji : ¬ 15 < (j : Int) := by omega
    have hji0 : ¬ (j : Int) < 0 := by omega
    clear hin
    have CH := Lib.hid (HQ.out.hit j hj)
    go_wp2_with fail
    refine CH.out.mono ?_
    rintro x w2 ⟨rfl, q2⟩
    have HQ2 := Lib.hid q2
    have r0 := q2.cell 0 (.int .i64 2) rfl
    have r1 := q2.cell 1 (.int .i64 (j : Int)) rfl
    clear q2 CH
    have CH := Lib.hid (HQ2.out.rhit j hj)
    go_wp2_with fail
    refine CH.out.mono ?_
    rintro x w3 ⟨rfl, q3⟩
    have HQ3 := Lib.hid q3
    clear q3 CH
    go_wp2_with fail
    go_ret
    exact HQ3.out.fin rfl (Nat.le_succ _) rfl
  · have hlo : i < 0 ∨ 16 ≤ i := by omega
    have CH := Lib.hid (HQ.out.hit_no i hlo)
    have hlo : i < 0 ∨ (¬ i < 0 ∧ 15 < i) := by omega
    clear hin
    rcases hlo with hlo | ⟨hlo, hlo2⟩
    all_goals
      go_wp2_with fail
      refine CH.out.mono ?_
      rintro x w2 ⟨rfl, rfl⟩
      go_wp2_with fail
      go_ret
      exact HQ.out.fin rfl (Nat.le_succ _) rfl
set_option maxRecDepth 100000 in
set_option maxHeartbeats 8000000 in
theorem dohit3_any (kd i : Int) (hkd : kd = 3) (b : Sb B w p h e P H E s s) : Calls Try.prog 9 #[.pointer (some ⟨p, 0, none⟩), .pointer (some ⟨P, 0, none⟩), .agg #[.int .i64 kd, .int .i64 i]] w (DoQ B p h e P H E (s.k + 1) w) := by
  obtain ⟨w1, a, HW, HA, HQ⟩ := sa_start b #[.int .i64 kd, .int .i64 i]
  clear b
  have r0 := HQ.out.cell 0 (.int .i64 kd) rfl
  have r1 := HQ.out.cell 1 (.int .i64 i) rfl
  subst hkd
  go_enter Try.func9, Try.ntmps9
  go_upto_region 1 with fail
  rw [HW.out, HA.out]
  clear HW HA
  by_cases hin : 0 ≤ i ∧ i < 16
  · obtain ⟨j, rfl⟩ : ∃ j : Nat, i = (j : Int) := ⟨i.toNat, by omega⟩
    have hj : j < 16 := by omega
    have hji : ¬ 15 < (j : Int) := by omega
    have hji0 : ¬ (j : Int) < 0 := by omega
    clear hin
    have CH := Lib.hid (HQ.out.hit j hj)
    go_wp2_with fail
    refine CH.out.mono ?_
    rintro x w2 ⟨rfl, q2⟩
    have HQ2 := Lib.hid q2
    have r0 := q2.cell 0 (.int .i64 3) rfl
    have r1 := q2.cell 1 (.int .i64 (j : Int)) rfl
    clear q2 CH
    have CH := Lib.hid (HQ2.out.rhit j hj)
    go_wp2_with fail
    refine CH.out.mono ?_
    rintro x w3 ⟨rfl, q3⟩
    have HQ3 := Lib.hid q3
    clear q3 CH
    go_wp2_with fail
    go_ret
    exact HQ3.out.fin rfl (Nat.le_succ _) rfl
  · have hlo : i < 0 ∨ 16 ≤ i := by omega
    have CH := Lib.hid (HQ.out.hit_no i hlo)
    have hlo : i < 0 ∨ (¬ i < 0 ∧ 15 < i) := by omega
    clear hin
    rcases hlo with hlo | ⟨hlo, hlo2⟩
    all_goals
      go_wp2_with fail
      refine CH.out.mono ?_
      rintro x w2 ⟨rfl, rfl⟩
      go_wp2_with fail
      go_ret
      exact HQ.out.fin rfl (Nat.le_succ _) rfl
set_option maxRecDepth 100000 in
set_option maxHeartbeats 8000000 in
theorem doslot4_any (kd i : Int) (hkd : kd = 4) (b : Sb B w p h e P H E s s) : Calls Try.prog 9 #[.pointer (some ⟨p, 0, none⟩), .pointer (some ⟨P, 0, none⟩), .agg #[.int .i64 kd, .int .i64 i]] w (DoQ B p h e P H E (s.k + 1) w) := by
  obtain ⟨w1, a, HW, HA, HQ⟩ := sa_start b #[.int .i64 kd, .int .i64 i]
  clear b
  have r0 := HQ.out.cell 0 (.int .i64 kd) rfl
  have r1 := HQ.out.cell 1 (.int .i64 i) rfl
  subst hkd
  have CS := Lib.hid (slot4_any 4 i rfl HQ.out.b)
  go_enter Try.func9, Try.ntmps9
  go_upto_region 1 with fail
  rw [HW.out, HA.out]
  clear HW HA
  go_wp2_with fail
  refine CS.out.mono ?_
  intro x w2 hd
  obtain ⟨rfl, HD⟩ := hd.post
  clear hd CS
  go_wp2_with fail
  go_ret
  exact DoQ.mk2 HD.out HQ.out.k (Nat.le_succ _)
set_option maxRecDepth 100000 in
set_option maxHeartbeats 8000000 in
theorem doslot5_any (kd i : Int) (hkd : kd = 5) (b : Sb B w p h e P H E s s) : Calls Try.prog 9 #[.pointer (some ⟨p, 0, none⟩), .pointer (some ⟨P, 0, none⟩), .agg #[.int .i64 kd, .int .i64 i]] w (DoQ B p h e P H E (s.k + 1) w) := by
  obtain ⟨w1, a, HW, HA, HQ⟩ := sa_start b #[.int .i64 kd, .int .i64 i]
  clear b
  have r0 := HQ.out.cell 0 (.int .i64 kd) rfl
  have r1 := HQ.out.cell 1 (.int .i64 i) rfl
  subst hkd
  have CS := Lib.hid (slot5_any 5 i rfl HQ.out.b)
  go_enter Try.func9, Try.ntmps9
  go_upto_region 1 with fail
  rw [HW.out, HA.out]
  clear HW HA
  go_wp2_with fail
  refine CS.out.mono ?_
  intro x w2 hd
  obtain ⟨rfl, HD⟩ := hd.post
  clear hd CS
  go_wp2_with fail
  go_ret
  exact DoQ.mk2 HD.out HQ.out.k (Nat.le_succ _)
set_option maxRecDepth 100000 in
set_option maxHeartbeats 8000000 in
theorem doslot6_any (kd i : Int) (hkd : kd = 6) (b : Sb B w p h e P H E s s) : Calls Try.prog 9 #[.pointer (some ⟨p, 0, none⟩), .pointer (some ⟨P, 0, none⟩), .agg #[.int .i64 kd, .int .i64 i]] w (DoQ B p h e P H E (s.k + 1) w) := by
  obtain ⟨w1, a, HW, HA, HQ⟩ := sa_start b #[.int .i64 kd, .int .i64 i]
  clear b
  have r0 := HQ.out.cell 0 (.int .i64 kd) rfl
  have r1 := HQ.out.cell 1 (.int .i64 i) rfl
  subst hkd
  have CS := Lib.hid (slotx_any 6 i (by decide) (by decide) HQ.out.b)
  go_enter Try.func9, Try.ntmps9
  go_upto_region 1 with fail
  rw [HW.out, HA.out]
  clear HW HA
  go_wp2_with fail
  refine CS.out.mono ?_
  intro x w2 hd
  obtain ⟨rfl, HD⟩ := hd.post
  clear hd CS
  go_wp2_with fail
  go_ret
  exact DoQ.mk2 HD.out HQ.out.k (Nat.le_succ _)
set_option maxRecDepth 100000 in
set_option maxHeartbeats 8000000 in
theorem doslot7_any (kd i : Int) (hkd : kd = 7) (b : Sb B w p h e P H E s s) : Calls Try.prog 9 #[.pointer (some ⟨p, 0, none⟩), .pointer (some ⟨P, 0, none⟩), .agg #[.int .i64 kd, .int .i64 i]] w (DoQ B p h e P H E (s.k + 1) w) := by
  obtain ⟨w1, a, HW, HA, HQ⟩ := sa_start b #[.int .i64 kd, .int .i64 i]
  clear b
  have r0 := HQ.out.cell 0 (.int .i64 kd) rfl
  have r1 := HQ.out.cell 1 (.int .i64 i) rfl
  subst hkd
  have CS := Lib.hid (slotx_any 7 i (by decide) (by decide) HQ.out.b)
  go_enter Try.func9, Try.ntmps9
  go_upto_region 1 with fail
  rw [HW.out, HA.out]
  clear HW HA
  go_wp2_with fail
  refine CS.out.mono ?_
  intro x w2 hd
  obtain ⟨rfl, HD⟩ := hd.post
  clear hd CS
  go_wp2_with fail
  go_ret
  exact DoQ.mk2 HD.out HQ.out.k (Nat.le_succ _)
set_option maxRecDepth 100000 in
set_option maxHeartbeats 8000000 in
theorem dotick_any (kd i : Int) (hk : s.k < 100000) (h0 : ¬ kd = 0) (h1 : ¬ kd = 1) (h2 : ¬ kd = 2) (h3 : ¬ kd = 3) (h4 : ¬ kd = 4) (h5 : ¬ kd = 5) (h6 : ¬ kd = 6) (h7 : ¬ kd = 7) (b : Sb B w p h e P H E s s) : Calls Try.prog 9 #[.pointer (some ⟨p, 0, none⟩), .pointer (some ⟨P, 0, none⟩), .agg #[.int .i64 kd, .int .i64 i]] w (DoQ B p h e P H E (s.k + 1) w) := by
  obtain ⟨w1, a, HW, HA, HQ⟩ := sa_start b #[.int .i64 kd, .int .i64 i]
  clear b
  have r0 := HQ.out.cell 0 (.int .i64 kd) rfl
  have r1 := HQ.out.cell 1 (.int .i64 i) rfl
  have dk : w1.cell? ⟨P, 74, none⟩ = some (.int .i64 (s.k : Int)) := HQ.out.ck
  have fk := HQ.out.b.px.free 74
  have HK0 := Lib.hid HQ.out.k
  have HQ2 : Hid (Sa B w (w1.setCell ⟨P, 74, none⟩ (.int .i64 ((s.k : Int) + 1))) p h e P H E s { s with k := s.k + 1 } a #[.int .i64 kd, .int .i64 i]) := Lib.hid (HQ.out.setK (s.k + 1))
  have CT0 := fun (w2 : World) (t : St) (q : Sa B w w2 p h e P H E s t a #[.int .i64 kd, .int .i64 i]) => q.tick (by omega)
  obtain ⟨k, hk0⟩ : ∃ k, s.k = k := ⟨_, rfl⟩
  have HS : Hid (s.k = k) := Lib.hid hk0
  rw [hk0] at dk HQ2 CT0 hk ⊢
  clear hk0
  have e1 : IntKind.i64.wrap ((k : Int) + 1) = (k : Int) + 1 := IntWalk.i64_in _ (by omega)
  obtain ⟨w2, hw2⟩ : ∃ w2, Hid (w1.setCell ⟨P, 74, none⟩ (.int .i64 ((k : Int) + 1)) = w2) := ⟨_, Lib.hid rfl⟩
  rw [hw2.out] at HQ2
  obtain ⟨m, hm⟩ : ∃ m, k + 1 = m := ⟨_, rfl⟩
  have hmi : (k : Int) + 1 = (m : Int) := by omega
  have HMI := Lib.hid hmi
  have HM := Lib.hid hm
  rw [hm] at HQ2 CT0 ⊢
  have CT0 := Lib.hid CT0
  obtain ⟨r, hr⟩ : ∃ r, m % 8 = r := ⟨_, rfl⟩
  have a1 : (m : Int).tmod 8 = (r : Int) := by rw [Int.tmod_eq_emod_of_nonneg (by omega)]; omega
  have a1' : (m : Int) % 8 = (r : Int) := by omega
  have z1 : IntKind.i64.wrap (r : Int) = r := IntWalk.i64_in _ (by omega)
  have HR := Lib.hid hr
  clear hr hm hmi
  have dk2 : w2.cell? ⟨P, 74, none⟩ = some (.int .i64 (m : Int)) := HQ2.out.ck
  go_enter Try.func9, Try.ntmps9
  go_upto_region 1 with fail
  rw [HW.out, HA.out]
  clear HW HA
  go_upto_region 17 with fail
  rw [hw2.out]
  clear hw2 dk fk e1 HQ r0 r1
  by_cases hr0 : r = 0
  · subst hr0
    as_aux_lemma =>
    have CE := Lib.hid HQ2.out.rend
    go_wp2_with fail
    refine CE.out.mono ?_
    rintro x w3 ⟨rfl, q3⟩
    have HQ3 := Lib.hid q3
    have dk2 : w3.cell? ⟨P, 74, none⟩ = some (.int .i64 (m : Int)) := q3.ck
    clear q3 CE HQ2
    go_wp2_with fail
    refine wp_region_lin (S := (fun w' => w'.cell? ⟨P, 74, none⟩ = some (.int .i64 (m : Int)))) [(0, true), (2, true), (3, true), (4, true), (5, true), (1, false), (6, true), (7, true)] (by kernel_rfl) (by kernel_rfl) rfl (by kernel_rfl) ?_ (fun hHeld => ?_)
    · (try dsimp only); exact dk2
    have HQd := Lib.hid (HQ3.out.below (Below.refl _ _).drew)
    clear dk2 HQ3
    generalize World.drew w3 = wd at hHeld HQd ⊢
    have CT := Lib.hid (CT0.out wd _ HQd.out)
    (refine wpL_calm (o := { dst := some 60, op := Go.Op.move (Go.Operand.tmp 0), type := 23, pos := "law.go:86", after := #[], guard := none }) (v := ?_) rfl (Or.inl ⟨by rfl, ?_⟩) ?_; rotate_left; (focus (intro w hSw; (try dsimp only at hSw); go_simp; (try (with_reducible rfl)); done)); try simp only [Act.put, List.setIfInBounds_toArray, List.set_cons_zero, List.set_cons_succ])
    (refine wpL_calm (o := { dst := some 62, op := Go.Op.move (Go.Operand.tmp 1), type := 25, pos := "law.go:86", after := #[], guard := none }) (v := ?_) rfl (Or.inl ⟨by rfl, ?_⟩) ?_; rotate_left; (focus (intro w hSw; (try dsimp only at hSw); go_simp; (try (with_reducible rfl)); done)); try simp only [Act.put, List.setIfInBounds_toArray, List.set_cons_zero, List.set_cons_succ])
    (refine wpL_calm (o := { dst := some 63, op := Go.Op.nilCheck (Go.Operand.tmp 62), type := 0, pos := "law.go:86", after := #[{ on := 2, ground := Go.Ground.data }], guard := none }) (v := ?_) rfl (Or.inl ⟨by rfl, ?_⟩) ?_; rotate_left; (focus (intro w hSw; (try dsimp only at hSw); go_simp; (try (with_reducible rfl)); done)); try simp only [Act.put, List.setIfInBounds_toArray, List.set_cons_zero, List.set_cons_succ])
    (refine wpL_calm (o := { dst := some 64, op := Go.Op.fieldAddr 61 (Go.Operand.tmp 63) 4, type := 0, pos := "law.go:86", after := #[{ on := 3, ground := Go.Ground.data }], guard := none }) (v := ?_) rfl (Or.inl ⟨by rfl, ?_⟩) ?_; rotate_left; (focus (intro w hSw; (try dsimp only at hSw); go_simp; (try (with_reducible rfl)); done)); try simp only [Act.put, List.setIfInBounds_toArray, List.set_cons_zero, List.set_cons_succ])
    (refine wpL_calm (o := { dst := some 65, op := Go.Op.load 3 (Go.Operand.tmp 64), type := 3, pos := "law.go:86", after := #[{ on := 4, ground := Go.Ground.data }], guard := none }) (v := ?_) rfl (Or.inl ⟨by rfl, ?_⟩) ?_; rotate_left; (focus (intro w hSw; (try dsimp only at hSw); go_simp; (try (with_reducible rfl)); done)); try simp only [Act.put, List.setIfInBounds_toArray, List.set_cons_zero, List.set_cons_succ])
    refine wpL_loud1 (o := { dst := some 61, op := Go.Op.call { callee := Go.Callee.value (Go.Operand.func 17), args := #[Go.Operand.tmp 60], argTypes := #[23] }, type := 3, pos := "law.go:86", after := #[{ on := 0, ground := Go.Ground.data }], guard := none }) rfl (fun K hK => ?_)
    (go_simp; go_at_call 17; refine CT.out.mono ?_; rintro x w4 ⟨rfl, q4⟩)
    try go_wp2_with fail
    refine hK.out _ _ ?_ (fun hHeld => ?_)
    · (try dsimp only); exact q4.ck
    clear hK K
    try simp only [Act.put, List.setIfInBounds_toArray, List.set_cons_zero, List.set_cons_succ]
    (refine wpL_calm (o := { dst := some 66, op := Go.Op.binOp Go.BinOp.eql 3 (Go.Operand.tmp 61) (Go.Operand.tmp 65) 3, type := 4, pos := "law.go:86", after := #[{ on := 1, ground := Go.Ground.data }, { on := 5, ground := Go.Ground.data }], guard := none }) (v := ?_) rfl (Or.inl ⟨by rfl, ?_⟩) ?_; rotate_left; (focus (intro w hSw; (try dsimp only at hSw); go_simp; (try (with_reducible rfl)); done)); try simp only [Act.put, List.setIfInBounds_toArray, List.set_cons_zero, List.set_cons_succ])
    (refine wpL_calm (o := { dst := some 6, op := Go.Op.assign (Go.Operand.tmp 66), type := 4, pos := "law.go:86", after := #[{ on := 6, ground := Go.Ground.data }, { on := 1, ground := Go.Ground.chain }, { on := 0, ground := Go.Ground.phase }, { on := 1, ground := Go.Ground.phase }, { on := 2, ground := Go.Ground.phase }, { on := 3, ground := Go.Ground.phase }, { on := 4, ground := Go.Ground.phase }, { on := 5, ground := Go.Ground.phase }, { on := 6, ground := Go.Ground.phase }], guard := none }) (v := ?_) rfl (Or.inl ⟨by rfl, ?_⟩) ?_; rotate_left; (focus (intro w hSw; (try dsimp only at hSw); go_simp; (try (with_reducible rfl)); done)); try simp only [Act.put, List.setIfInBounds_toArray, List.set_cons_zero, List.set_cons_succ])
    refine wpL_nil ?_
    refine NoPanic.normal ?_
    have HQ5 := Lib.hid q4
    clear q4 CT
    go_wp2_with fail
    go_ret
    exact HQ5.out.fin (by simp only [St.mk.injEq]; unfold tkR tkS tkC tkU; rw [HM.out, HR.out]; exact ⟨by rw [if_pos rfl], by rw [if_pos rfl], by rw [if_pos rfl], by rw [if_pos rfl], by first | rfl | trivial⟩) (by first | exact Nat.le_refl _ | omega) (by simp)
  · have hr1 : ¬ (r : Int) = 0 := by omega
    as_aux_lemma =>
    go_wp2_with fail
    refine wp_region_lin (S := (fun w' => w'.cell? ⟨P, 74, none⟩ = some (.int .i64 (m : Int)))) [(0, true), (2, true), (3, true), (4, true), (5, true), (1, false), (6, true), (7, true)] (by kernel_rfl) (by kernel_rfl) rfl (by kernel_rfl) ?_ (fun hHeld => ?_)
    · (try dsimp only); exact dk2
    have HQd := Lib.hid (HQ2.out.below (Below.refl _ _).drew)
    clear dk2 HQ2
    generalize World.drew w2 = wd at hHeld HQd ⊢
    have CT := Lib.hid (CT0.out wd _ HQd.out)
    (refine wpL_calm (o := { dst := some 60, op := Go.Op.move (Go.Operand.tmp 0), type := 23, pos := "law.go:86", after := #[], guard := none }) (v := ?_) rfl (Or.inl ⟨by rfl, ?_⟩) ?_; rotate_left; (focus (intro w hSw; (try dsimp only at hSw); go_simp; (try (with_reducible rfl)); done)); try simp only [Act.put, List.setIfInBounds_toArray, List.set_cons_zero, List.set_cons_succ])
    (refine wpL_calm (o := { dst := some 62, op := Go.Op.move (Go.Operand.tmp 1), type := 25, pos := "law.go:86", after := #[], guard := none }) (v := ?_) rfl (Or.inl ⟨by rfl, ?_⟩) ?_; rotate_left; (focus (intro w hSw; (try dsimp only at hSw); go_simp; (try (with_reducible rfl)); done)); try simp only [Act.put, List.setIfInBounds_toArray, List.set_cons_zero, List.set_cons_succ])
    (refine wpL_calm (o := { dst := some 63, op := Go.Op.nilCheck (Go.Operand.tmp 62), type := 0, pos := "law.go:86", after := #[{ on := 2, ground := Go.Ground.data }], guard := none }) (v := ?_) rfl (Or.inl ⟨by rfl, ?_⟩) ?_; rotate_left; (focus (intro w hSw; (try dsimp only at hSw); go_simp; (try (with_reducible rfl)); done)); try simp only [Act.put, List.setIfInBounds_toArray, List.set_cons_zero, List.set_cons_succ])
    (refine wpL_calm (o := { dst := some 64, op := Go.Op.fieldAddr 61 (Go.Operand.tmp 63) 4, type := 0, pos := "law.go:86", after := #[{ on := 3, ground := Go.Ground.data }], guard := none }) (v := ?_) rfl (Or.inl ⟨by rfl, ?_⟩) ?_; rotate_left; (focus (intro w hSw; (try dsimp only at hSw); go_simp; (try (with_reducible rfl)); done)); try simp only [Act.put, List.setIfInBounds_toArray, List.set_cons_zero, List.set_cons_succ])
    (refine wpL_calm (o := { dst := some 65, op := Go.Op.load 3 (Go.Operand.tmp 64), type := 3, pos := "law.go:86", after := #[{ on := 4, ground := Go.Ground.data }], guard := none }) (v := ?_) rfl (Or.inl ⟨by rfl, ?_⟩) ?_; rotate_left; (focus (intro w hSw; (try dsimp only at hSw); go_simp; (try (with_reducible rfl)); done)); try simp only [Act.put, List.setIfInBounds_toArray, List.set_cons_zero, List.set_cons_succ])
    refine wpL_loud1 (o := { dst := some 61, op := Go.Op.call { callee := Go.Callee.value (Go.Operand.func 17), args := #[Go.Operand.tmp 60], argTypes := #[23] }, type := 3, pos := "law.go:86", after := #[{ on := 0, ground := Go.Ground.data }], guard := none }) rfl (fun K hK => ?_)
    (go_simp; go_at_call 17; refine CT.out.mono ?_; rintro x w4 ⟨rfl, q4⟩)
    try go_wp2_with fail
    refine hK.out _ _ ?_ (fun hHeld => ?_)
    · (try dsimp only); exact q4.ck
    clear hK K
    try simp only [Act.put, List.setIfInBounds_toArray, List.set_cons_zero, List.set_cons_succ]
    (refine wpL_calm (o := { dst := some 66, op := Go.Op.binOp Go.BinOp.eql 3 (Go.Operand.tmp 61) (Go.Operand.tmp 65) 3, type := 4, pos := "law.go:86", after := #[{ on := 1, ground := Go.Ground.data }, { on := 5, ground := Go.Ground.data }], guard := none }) (v := ?_) rfl (Or.inl ⟨by rfl, ?_⟩) ?_; rotate_left; (focus (intro w hSw; (try dsimp only at hSw); go_simp; (try (with_reducible rfl)); done)); try simp only [Act.put, List.setIfInBounds_toArray, List.set_cons_zero, List.set_cons_succ])
    (refine wpL_calm (o := { dst := some 6, op := Go.Op.assign (Go.Operand.tmp 66), type := 4, pos := "law.go:86", after := #[{ on := 6, ground := Go.Ground.data }, { on := 1, ground := Go.Ground.chain }, { on := 0, ground := Go.Ground.phase }, { on := 1, ground := Go.Ground.phase }, { on := 2, ground := Go.Ground.phase }, { on := 3, ground := Go.Ground.phase }, { on := 4, ground := Go.Ground.phase }, { on := 5, ground := Go.Ground.phase }, { on := 6, ground := Go.Ground.phase }], guard := none }) (v := ?_) rfl (Or.inl ⟨by rfl, ?_⟩) ?_; rotate_left; (focus (intro w hSw; (try dsimp only at hSw); go_simp; (try (with_reducible rfl)); done)); try simp only [Act.put, List.setIfInBounds_toArray, List.set_cons_zero, List.set_cons_succ])
    refine wpL_nil ?_
    refine NoPanic.normal ?_
    have HQ5 := Lib.hid q4
    clear q4 CT
    go_wp2_with fail
    go_ret
    exact HQ5.out.fin (by simp only [St.mk.injEq]; unfold tkR tkS tkC tkU; rw [HM.out, HR.out]; exact ⟨by rw [if_neg hr0], by rw [if_neg hr0], by rw [if_neg hr0], by rw [if_neg hr0], by first | rfl | trivial⟩) (by first | exact Nat.le_refl _ | omega) (by simp)
theorem do_any (kd i : Int) (hk : s.k < 100000) (b : Sb B w p h e P H E s s) : Calls Try.prog 9 #[.pointer (some ⟨p, 0, none⟩), .pointer (some ⟨P, 0, none⟩), .agg #[.int .i64 kd, .int .i64 i]] w (DoQ B p h e P H E (s.k + 1) w) := by
  by_cases h0 : kd = 0
  · exact dohit0_any kd i h0 b
  by_cases h1 : kd = 1
  · exact dohit1_any kd i h1 b
  by_cases h2 : kd = 2
  · exact dohit2_any kd i h2 b
  by_cases h3 : kd = 3
  · exact dohit3_any kd i h3 b
  by_cases h4 : kd = 4
  · exact doslot4_any kd i h4 b
  by_cases h5 : kd = 5
  · exact doslot5_any kd i h5 b
  by_cases h6 : kd = 6
  · exact doslot6_any kd i h6 b
  by_cases h7 : kd = 7
  · exact doslot7_any kd i h7 b
  exact dotick_any kd i hk h0 h1 h2 h3 h4 h5 h6 h7 b
end
end Go.Proofs.Ytfkepplpeakgmaa
