/- Both queues: the law's do, kind 7. -/
import Derived.Test.YtdoeaepfjdjmmaaLwB
namespace Go.Proofs.Ytdoeaepfjdjmmaa
open Go.RowKit Go.Deep
set_option linter.unusedVariables false
set_option linter.unusedSimpArgs false
set_option maxRecDepth 100000 in
set_option maxHeartbeats 8000000 in
theorem lwdo7_any (B g h n : Nat) (R X : Nat → List Nat) (i m : Int) (w : World) (b : Bq B w g h n R X) (hm1 : -9223372036854775808 ≤ m) (hm2 : m ≤ 9223372036854775807) : Calls Try.prog 9 #[.pointer (some ⟨g, 0, none⟩), .pointer (some ⟨h, 0, none⟩), .int .i64 (n : Int), .agg #[.int .i64 7, .int .i64 i, .int .i64 m]] w (DoP B g h n w R X 7 i m) := by
  obtain ⟨w1, a, HW, HA, HQ⟩ := aq_start b #[.int .i64 7, .int .i64 i, .int .i64 m]
  clear b
  have q0 := HQ.out.cell 0 (.int .i64 7) rfl
  have q1 := HQ.out.cell 1 (.int .i64 i) rfl
  have q2 := HQ.out.cell 2 (.int .i64 m) rfl
  obtain ⟨z, hz⟩ : ∃ z, Hid (balN R m 3 = z) := ⟨_, Lib.hid rfl⟩
  obtain ⟨x, hx⟩ : ∃ x, Hid (balN X m 3 = x) := ⟨_, Lib.hid rfl⟩
  obtain ⟨c, hc⟩ : ∃ c : Int, (z : Int) = c := ⟨_, rfl⟩
  obtain ⟨d, hd⟩ : ∃ d : Int, (x : Int) = d := ⟨_, rfl⟩
  go_enter Try.func9, Try.ntmps9
  go_upto_region 1 with fail
  rw [HW.out, HA.out]
  clear HW HA
  by_cases hin : 0 ≤ i ∧ i < (n : Int)
  · obtain ⟨j, rfl⟩ : ∃ j : Nat, i = (j : Int) := ⟨i.toNat, by omega⟩
    have hjn : j < n := by omega
    have hji : (j : Int) < (n : Int) := hin.2
    have CW := Lib.hid (HQ.out.where_ j)
    have hmA : ∀ Y : Nat → List Nat, misA Y n (j : Int) = if lvl Y j = -1 then 7 else 0 := fun Y => by unfold misA; rw [if_neg (by omega), Int.toNat_natCast]
    have HMA := Lib.hid hmA
    clear hin hmA
    rcases lvl_cases X j with ⟨hv, _⟩ | ⟨l, hl, hv, _⟩
    · rw [hv] at CW
      have HV := Lib.hid hv
      clear hv
      go_wp2_with fail
      refine CW.out.mono ?_
      rintro e w' ⟨rfl, rfl⟩
      clear CW
      go_upto_region 32 with fail
      refine wp_region_lin (S := (fun w' => w'.cell? ⟨a, 2, none⟩ = some (.int .i64 m))) [(0, true), (1, true), (2, true), (4, true), (5, true), (6, true), (3, false), (7, false), (8, true), (9, true)] (by kernel_rfl) (by kernel_rfl) rfl (by kernel_rfl) ?_ (fun hHeld => ?_)
      · (try dsimp only); exact q2
      have HQD := Lib.hid (HQ.out.below (Below.refl _ _).drew)
      generalize World.drew w1 = w2 at hHeld HQD ⊢
      (refine wpL_calm (o := { dst := some 119, op := Go.Op.move (Go.Operand.tmp 0), type := 23, pos := "law.go:62", after := #[], guard := none }) (v := ?_) rfl (Or.inl ⟨by rfl, ?_⟩) ?_; rotate_left; (focus (intro w hSw; (try dsimp only at hSw); go_simp; (try (with_reducible rfl)); done)); try simp only [Act.put, List.setIfInBounds_toArray, List.set_cons_zero, List.set_cons_succ])
      (refine wpL_calm (o := { dst := some 120, op := Go.Op.fieldAddr 35 (Go.Operand.tmp 7) 2, type := 0, pos := "law.go:62", after := #[], guard := none }) (v := ?_) rfl (Or.inl ⟨by rfl, ?_⟩) ?_; rotate_left; (focus (intro w hSw; (try dsimp only at hSw); go_simp; (try (with_reducible rfl)); done)); try simp only [Act.put, List.setIfInBounds_toArray, List.set_cons_zero, List.set_cons_succ])
      (refine wpL_calm (o := { dst := some 121, op := Go.Op.load 3 (Go.Operand.tmp 120), type := 3, pos := "law.go:62", after := #[{ on := 1, ground := Go.Ground.data }], guard := none }) (v := ?_) rfl (Or.inl ⟨by rfl, ?_⟩) ?_; rotate_left; (focus (intro w hSw; (try dsimp only at hSw); go_simp; (try (with_reducible rfl)); done)); try simp only [Act.put, List.setIfInBounds_toArray, List.set_cons_zero, List.set_cons_succ])
      (refine wpL_calm (o := { dst := some 123, op := Go.Op.move (Go.Operand.tmp 1), type := 28, pos := "law.go:62", after := #[], guard := none }) (v := ?_) rfl (Or.inl ⟨by rfl, ?_⟩) ?_; rotate_left; (focus (intro w hSw; (try dsimp only at hSw); go_simp; (try (with_reducible rfl)); done)); try simp only [Act.put, List.setIfInBounds_toArray, List.set_cons_zero, List.set_cons_succ])
      (refine wpL_calm (o := { dst := some 124, op := Go.Op.fieldAddr 35 (Go.Operand.tmp 7) 2, type := 0, pos := "law.go:62", after := #[], guard := none }) (v := ?_) rfl (Or.inl ⟨by rfl, ?_⟩) ?_; rotate_left; (focus (intro w hSw; (try dsimp only at hSw); go_simp; (try (with_reducible rfl)); done)); try simp only [Act.put, List.setIfInBounds_toArray, List.set_cons_zero, List.set_cons_succ])
      (refine wpL_calm (o := { dst := some 125, op := Go.Op.load 3 (Go.Operand.tmp 124), type := 3, pos := "law.go:62", after := #[{ on := 5, ground := Go.Ground.data }], guard := none }) (v := ?_) rfl (Or.inl ⟨by rfl, ?_⟩) ?_; rotate_left; (focus (intro w hSw; (try dsimp only at hSw); go_simp; (try (with_reducible rfl)); done)); try simp only [Act.put, List.setIfInBounds_toArray, List.set_cons_zero, List.set_cons_succ])
      refine wpL_loud1 (o := { dst := some 122, op := Go.Op.call { callee := Go.Callee.value (Go.Operand.func 14), args := #[Go.Operand.tmp 119, Go.Operand.tmp 121], argTypes := #[23, 3] }, type := 3, pos := "law.go:62", after := #[{ on := 0, ground := Go.Ground.data }, { on := 2, ground := Go.Ground.data }], guard := none }) rfl (fun K hK => ?_)
      (go_simp; go_at_call 14; refine (HQD.out.balance m hm2).mono ?_; rintro e w3 ⟨rfl, QA⟩; rw [hz.out, hc]; have HQE := Lib.hid QA; have r2 := QA.cell 2 (.int .i64 m) rfl; clear QA)
      try go_wp2_with fail
      refine hK.out _ _ ?_ (fun hHeld => ?_)
      · (try dsimp only); exact r2
      clear hK K
      try simp only [Act.put, List.setIfInBounds_toArray, List.set_cons_zero, List.set_cons_succ]
      refine wpL_loud1 (o := { dst := some 126, op := Go.Op.call { callee := Go.Callee.value (Go.Operand.func 27), args := #[Go.Operand.tmp 123, Go.Operand.tmp 125], argTypes := #[28, 3] }, type := 3, pos := "law.go:62", after := #[{ on := 4, ground := Go.Ground.data }, { on := 6, ground := Go.Ground.data }, { on := 3, ground := Go.Ground.chain }], guard := none }) rfl (fun K hK => ?_)
      (go_simp; go_at_call 27; refine (HQE.out.rbalance m hm2).mono ?_; rintro e w4 ⟨rfl, QA⟩; rw [hx.out, hd]; have HQF := Lib.hid QA; have r3 := QA.cell 2 (.int .i64 m) rfl; clear QA)
      try go_wp2_with fail
      refine hK.out _ _ ?_ (fun hHeld => ?_)
      · (try dsimp only); exact r3
      clear hK K
      try simp only [Act.put, List.setIfInBounds_toArray, List.set_cons_zero, List.set_cons_succ]
      (refine wpL_calm (o := { dst := some 127, op := Go.Op.binOp Go.BinOp.eql 3 (Go.Operand.tmp 122) (Go.Operand.tmp 126) 3, type := 4, pos := "law.go:62", after := #[{ on := 3, ground := Go.Ground.data }, { on := 7, ground := Go.Ground.data }], guard := none }) (v := ?_) rfl (Or.inl ⟨by rfl, ?_⟩) ?_; rotate_left; (focus (intro w hSw; (try dsimp only at hSw); go_simp; (try (with_reducible rfl)); done)); try simp only [Act.put, List.setIfInBounds_toArray, List.set_cons_zero, List.set_cons_succ])
      (refine wpL_calm (o := { dst := some 8, op := Go.Op.assign (Go.Operand.tmp 127), type := 4, pos := "law.go:62", after := #[{ on := 8, ground := Go.Ground.data }, { on := 7, ground := Go.Ground.chain }, { on := 0, ground := Go.Ground.phase }, { on := 1, ground := Go.Ground.phase }, { on := 2, ground := Go.Ground.phase }, { on := 3, ground := Go.Ground.phase }, { on := 4, ground := Go.Ground.phase }, { on := 5, ground := Go.Ground.phase }, { on := 6, ground := Go.Ground.phase }, { on := 7, ground := Go.Ground.phase }, { on := 8, ground := Go.Ground.phase }], guard := none }) (v := ?_) rfl (Or.inl ⟨by rfl, ?_⟩) ?_; rotate_left; (focus (intro w hSw; (try dsimp only at hSw); go_simp; (try (with_reducible rfl)); done)); try simp only [Act.put, List.setIfInBounds_toArray, List.set_cons_zero, List.set_cons_succ])
      refine wpL_nil ?_
      refine NoPanic.normal ?_
      go_wp2_with fail
      go_ret
      exact HQF.out.fin _ (fun e => by rw [e, hx.out] at hz; have h1 := hz.out; have h2 := hc; have h3 := hd; simp; omega) (act7 R).symm (act7 X).symm
    · rw [hv] at CW
      have HV : Hid (lvl X j = (l : Int)) := Lib.hid hv
      have hl0 : ¬ (l : Int) < 0 := by omega
      clear hv
      go_wp2_with fail
      refine CW.out.mono ?_
      rintro e w' ⟨rfl, rfl⟩
      clear CW
      go_upto_region 32 with fail
      refine wp_region_lin (S := (fun w' => w'.cell? ⟨a, 2, none⟩ = some (.int .i64 m))) [(0, true), (1, true), (2, true), (4, true), (5, true), (6, true), (3, false), (7, false), (8, true), (9, true)] (by kernel_rfl) (by kernel_rfl) rfl (by kernel_rfl) ?_ (fun hHeld => ?_)
      · (try dsimp only); exact q2
      have HQD := Lib.hid (HQ.out.below (Below.refl _ _).drew)
      generalize World.drew w1 = w2 at hHeld HQD ⊢
      (refine wpL_calm (o := { dst := some 119, op := Go.Op.move (Go.Operand.tmp 0), type := 23, pos := "law.go:62", after := #[], guard := none }) (v := ?_) rfl (Or.inl ⟨by rfl, ?_⟩) ?_; rotate_left; (focus (intro w hSw; (try dsimp only at hSw); go_simp; (try (with_reducible rfl)); done)); try simp only [Act.put, List.setIfInBounds_toArray, List.set_cons_zero, List.set_cons_succ])
      (refine wpL_calm (o := { dst := some 120, op := Go.Op.fieldAddr 35 (Go.Operand.tmp 7) 2, type := 0, pos := "law.go:62", after := #[], guard := none }) (v := ?_) rfl (Or.inl ⟨by rfl, ?_⟩) ?_; rotate_left; (focus (intro w hSw; (try dsimp only at hSw); go_simp; (try (with_reducible rfl)); done)); try simp only [Act.put, List.setIfInBounds_toArray, List.set_cons_zero, List.set_cons_succ])
      (refine wpL_calm (o := { dst := some 121, op := Go.Op.load 3 (Go.Operand.tmp 120), type := 3, pos := "law.go:62", after := #[{ on := 1, ground := Go.Ground.data }], guard := none }) (v := ?_) rfl (Or.inl ⟨by rfl, ?_⟩) ?_; rotate_left; (focus (intro w hSw; (try dsimp only at hSw); go_simp; (try (with_reducible rfl)); done)); try simp only [Act.put, List.setIfInBounds_toArray, List.set_cons_zero, List.set_cons_succ])
      (refine wpL_calm (o := { dst := some 123, op := Go.Op.move (Go.Operand.tmp 1), type := 28, pos := "law.go:62", after := #[], guard := none }) (v := ?_) rfl (Or.inl ⟨by rfl, ?_⟩) ?_; rotate_left; (focus (intro w hSw; (try dsimp only at hSw); go_simp; (try (with_reducible rfl)); done)); try simp only [Act.put, List.setIfInBounds_toArray, List.set_cons_zero, List.set_cons_succ])
      (refine wpL_calm (o := { dst := some 124, op := Go.Op.fieldAddr 35 (Go.Operand.tmp 7) 2, type := 0, pos := "law.go:62", after := #[], guard := none }) (v := ?_) rfl (Or.inl ⟨by rfl, ?_⟩) ?_; rotate_left; (focus (intro w hSw; (try dsimp only at hSw); go_simp; (try (with_reducible rfl)); done)); try simp only [Act.put, List.setIfInBounds_toArray, List.set_cons_zero, List.set_cons_succ])
      (refine wpL_calm (o := { dst := some 125, op := Go.Op.load 3 (Go.Operand.tmp 124), type := 3, pos := "law.go:62", after := #[{ on := 5, ground := Go.Ground.data }], guard := none }) (v := ?_) rfl (Or.inl ⟨by rfl, ?_⟩) ?_; rotate_left; (focus (intro w hSw; (try dsimp only at hSw); go_simp; (try (with_reducible rfl)); done)); try simp only [Act.put, List.setIfInBounds_toArray, List.set_cons_zero, List.set_cons_succ])
      refine wpL_loud1 (o := { dst := some 122, op := Go.Op.call { callee := Go.Callee.value (Go.Operand.func 14), args := #[Go.Operand.tmp 119, Go.Operand.tmp 121], argTypes := #[23, 3] }, type := 3, pos := "law.go:62", after := #[{ on := 0, ground := Go.Ground.data }, { on := 2, ground := Go.Ground.data }], guard := none }) rfl (fun K hK => ?_)
      (go_simp; go_at_call 14; refine (HQD.out.balance m hm2).mono ?_; rintro e w3 ⟨rfl, QA⟩; rw [hz.out, hc]; have HQE := Lib.hid QA; have r2 := QA.cell 2 (.int .i64 m) rfl; clear QA)
      try go_wp2_with fail
      refine hK.out _ _ ?_ (fun hHeld => ?_)
      · (try dsimp only); exact r2
      clear hK K
      try simp only [Act.put, List.setIfInBounds_toArray, List.set_cons_zero, List.set_cons_succ]
      refine wpL_loud1 (o := { dst := some 126, op := Go.Op.call { callee := Go.Callee.value (Go.Operand.func 27), args := #[Go.Operand.tmp 123, Go.Operand.tmp 125], argTypes := #[28, 3] }, type := 3, pos := "law.go:62", after := #[{ on := 4, ground := Go.Ground.data }, { on := 6, ground := Go.Ground.data }, { on := 3, ground := Go.Ground.chain }], guard := none }) rfl (fun K hK => ?_)
      (go_simp; go_at_call 27; refine (HQE.out.rbalance m hm2).mono ?_; rintro e w4 ⟨rfl, QA⟩; rw [hx.out, hd]; have HQF := Lib.hid QA; have r3 := QA.cell 2 (.int .i64 m) rfl; clear QA)
      try go_wp2_with fail
      refine hK.out _ _ ?_ (fun hHeld => ?_)
      · (try dsimp only); exact r3
      clear hK K
      try simp only [Act.put, List.setIfInBounds_toArray, List.set_cons_zero, List.set_cons_succ]
      (refine wpL_calm (o := { dst := some 127, op := Go.Op.binOp Go.BinOp.eql 3 (Go.Operand.tmp 122) (Go.Operand.tmp 126) 3, type := 4, pos := "law.go:62", after := #[{ on := 3, ground := Go.Ground.data }, { on := 7, ground := Go.Ground.data }], guard := none }) (v := ?_) rfl (Or.inl ⟨by rfl, ?_⟩) ?_; rotate_left; (focus (intro w hSw; (try dsimp only at hSw); go_simp; (try (with_reducible rfl)); done)); try simp only [Act.put, List.setIfInBounds_toArray, List.set_cons_zero, List.set_cons_succ])
      (refine wpL_calm (o := { dst := some 8, op := Go.Op.assign (Go.Operand.tmp 127), type := 4, pos := "law.go:62", after := #[{ on := 8, ground := Go.Ground.data }, { on := 7, ground := Go.Ground.chain }, { on := 0, ground := Go.Ground.phase }, { on := 1, ground := Go.Ground.phase }, { on := 2, ground := Go.Ground.phase }, { on := 3, ground := Go.Ground.phase }, { on := 4, ground := Go.Ground.phase }, { on := 5, ground := Go.Ground.phase }, { on := 6, ground := Go.Ground.phase }, { on := 7, ground := Go.Ground.phase }, { on := 8, ground := Go.Ground.phase }], guard := none }) (v := ?_) rfl (Or.inl ⟨by rfl, ?_⟩) ?_; rotate_left; (focus (intro w hSw; (try dsimp only at hSw); go_simp; (try (with_reducible rfl)); done)); try simp only [Act.put, List.setIfInBounds_toArray, List.set_cons_zero, List.set_cons_succ])
      refine wpL_nil ?_
      refine NoPanic.normal ?_
      go_wp2_with fail
      go_ret
      exact HQF.out.fin _ (fun e => by rw [e, hx.out] at hz; have h1 := hz.out; have h2 := hc; have h3 := hd; simp; omega) (act7 R).symm (act7 X).symm
  · have HIN := Lib.hid hin
    have hlo : i < 0 ∨ (n : Int) ≤ i := by omega
    have HLO := Lib.hid hlo
    have HMO : Hid (∀ Y : Nat → List Nat, misA Y n i = 3) := Lib.hid (fun Y => by unfold misA; rw [if_pos hlo])
    have hlo : ¬ 0 ≤ i ∨ (0 ≤ i ∧ ¬ i < (n : Int)) := by omega
    clear hin
    rcases hlo with hlo | ⟨hlo, hlo2⟩
    all_goals
      go_upto_region 32 with fail
      refine wp_region_lin (S := (fun w' => w'.cell? ⟨a, 2, none⟩ = some (.int .i64 m))) [(0, true), (1, true), (2, true), (4, true), (5, true), (6, true), (3, false), (7, false), (8, true), (9, true)] (by kernel_rfl) (by kernel_rfl) rfl (by kernel_rfl) ?_ (fun hHeld => ?_)
      · (try dsimp only); exact q2
      have HQD := Lib.hid (HQ.out.below (Below.refl _ _).drew)
      generalize World.drew w1 = w2 at hHeld HQD ⊢
      (refine wpL_calm (o := { dst := some 119, op := Go.Op.move (Go.Operand.tmp 0), type := 23, pos := "law.go:62", after := #[], guard := none }) (v := ?_) rfl (Or.inl ⟨by rfl, ?_⟩) ?_; rotate_left; (focus (intro w hSw; (try dsimp only at hSw); go_simp; (try (with_reducible rfl)); done)); try simp only [Act.put, List.setIfInBounds_toArray, List.set_cons_zero, List.set_cons_succ])
      (refine wpL_calm (o := { dst := some 120, op := Go.Op.fieldAddr 35 (Go.Operand.tmp 7) 2, type := 0, pos := "law.go:62", after := #[], guard := none }) (v := ?_) rfl (Or.inl ⟨by rfl, ?_⟩) ?_; rotate_left; (focus (intro w hSw; (try dsimp only at hSw); go_simp; (try (with_reducible rfl)); done)); try simp only [Act.put, List.setIfInBounds_toArray, List.set_cons_zero, List.set_cons_succ])
      (refine wpL_calm (o := { dst := some 121, op := Go.Op.load 3 (Go.Operand.tmp 120), type := 3, pos := "law.go:62", after := #[{ on := 1, ground := Go.Ground.data }], guard := none }) (v := ?_) rfl (Or.inl ⟨by rfl, ?_⟩) ?_; rotate_left; (focus (intro w hSw; (try dsimp only at hSw); go_simp; (try (with_reducible rfl)); done)); try simp only [Act.put, List.setIfInBounds_toArray, List.set_cons_zero, List.set_cons_succ])
      (refine wpL_calm (o := { dst := some 123, op := Go.Op.move (Go.Operand.tmp 1), type := 28, pos := "law.go:62", after := #[], guard := none }) (v := ?_) rfl (Or.inl ⟨by rfl, ?_⟩) ?_; rotate_left; (focus (intro w hSw; (try dsimp only at hSw); go_simp; (try (with_reducible rfl)); done)); try simp only [Act.put, List.setIfInBounds_toArray, List.set_cons_zero, List.set_cons_succ])
      (refine wpL_calm (o := { dst := some 124, op := Go.Op.fieldAddr 35 (Go.Operand.tmp 7) 2, type := 0, pos := "law.go:62", after := #[], guard := none }) (v := ?_) rfl (Or.inl ⟨by rfl, ?_⟩) ?_; rotate_left; (focus (intro w hSw; (try dsimp only at hSw); go_simp; (try (with_reducible rfl)); done)); try simp only [Act.put, List.setIfInBounds_toArray, List.set_cons_zero, List.set_cons_succ])
      (refine wpL_calm (o := { dst := some 125, op := Go.Op.load 3 (Go.Operand.tmp 124), type := 3, pos := "law.go:62", after := #[{ on := 5, ground := Go.Ground.data }], guard := none }) (v := ?_) rfl (Or.inl ⟨by rfl, ?_⟩) ?_; rotate_left; (focus (intro w hSw; (try dsimp only at hSw); go_simp; (try (with_reducible rfl)); done)); try simp only [Act.put, List.setIfInBounds_toArray, List.set_cons_zero, List.set_cons_succ])
      refine wpL_loud1 (o := { dst := some 122, op := Go.Op.call { callee := Go.Callee.value (Go.Operand.func 14), args := #[Go.Operand.tmp 119, Go.Operand.tmp 121], argTypes := #[23, 3] }, type := 3, pos := "law.go:62", after := #[{ on := 0, ground := Go.Ground.data }, { on := 2, ground := Go.Ground.data }], guard := none }) rfl (fun K hK => ?_)
      (go_simp; go_at_call 14; refine (HQD.out.balance m hm2).mono ?_; rintro e w3 ⟨rfl, QA⟩; rw [hz.out, hc]; have HQE := Lib.hid QA; have r2 := QA.cell 2 (.int .i64 m) rfl; clear QA)
      try go_wp2_with fail
      refine hK.out _ _ ?_ (fun hHeld => ?_)
      · (try dsimp only); exact r2
      clear hK K
      try simp only [Act.put, List.setIfInBounds_toArray, List.set_cons_zero, List.set_cons_succ]
      refine wpL_loud1 (o := { dst := some 126, op := Go.Op.call { callee := Go.Callee.value (Go.Operand.func 27), args := #[Go.Operand.tmp 123, Go.Operand.tmp 125], argTypes := #[28, 3] }, type := 3, pos := "law.go:62", after := #[{ on := 4, ground := Go.Ground.data }, { on := 6, ground := Go.Ground.data }, { on := 3, ground := Go.Ground.chain }], guard := none }) rfl (fun K hK => ?_)
      (go_simp; go_at_call 27; refine (HQE.out.rbalance m hm2).mono ?_; rintro e w4 ⟨rfl, QA⟩; rw [hx.out, hd]; have HQF := Lib.hid QA; have r3 := QA.cell 2 (.int .i64 m) rfl; clear QA)
      try go_wp2_with fail
      refine hK.out _ _ ?_ (fun hHeld => ?_)
      · (try dsimp only); exact r3
      clear hK K
      try simp only [Act.put, List.setIfInBounds_toArray, List.set_cons_zero, List.set_cons_succ]
      (refine wpL_calm (o := { dst := some 127, op := Go.Op.binOp Go.BinOp.eql 3 (Go.Operand.tmp 122) (Go.Operand.tmp 126) 3, type := 4, pos := "law.go:62", after := #[{ on := 3, ground := Go.Ground.data }, { on := 7, ground := Go.Ground.data }], guard := none }) (v := ?_) rfl (Or.inl ⟨by rfl, ?_⟩) ?_; rotate_left; (focus (intro w hSw; (try dsimp only at hSw); go_simp; (try (with_reducible rfl)); done)); try simp only [Act.put, List.setIfInBounds_toArray, List.set_cons_zero, List.set_cons_succ])
      (refine wpL_calm (o := { dst := some 8, op := Go.Op.assign (Go.Operand.tmp 127), type := 4, pos := "law.go:62", after := #[{ on := 8, ground := Go.Ground.data }, { on := 7, ground := Go.Ground.chain }, { on := 0, ground := Go.Ground.phase }, { on := 1, ground := Go.Ground.phase }, { on := 2, ground := Go.Ground.phase }, { on := 3, ground := Go.Ground.phase }, { on := 4, ground := Go.Ground.phase }, { on := 5, ground := Go.Ground.phase }, { on := 6, ground := Go.Ground.phase }, { on := 7, ground := Go.Ground.phase }, { on := 8, ground := Go.Ground.phase }], guard := none }) (v := ?_) rfl (Or.inl ⟨by rfl, ?_⟩) ?_; rotate_left; (focus (intro w hSw; (try dsimp only at hSw); go_simp; (try (with_reducible rfl)); done)); try simp only [Act.put, List.setIfInBounds_toArray, List.set_cons_zero, List.set_cons_succ])
      refine wpL_nil ?_
      refine NoPanic.normal ?_
      go_wp2_with fail
      go_ret
      exact HQF.out.fin _ (fun e => by rw [e, hx.out] at hz; have h1 := hz.out; have h2 := hc; have h3 := hd; simp; omega) (act7 R).symm (act7 X).symm
end Go.Proofs.Ytdoeaepfjdjmmaa
