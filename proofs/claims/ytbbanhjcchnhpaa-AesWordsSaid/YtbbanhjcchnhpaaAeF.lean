/- Package aes (cellaret): New, walked (new_any). -/
import Derived.Test.YtbbanhjcchnhpaaAeG
namespace Go.Proofs.Ytbbanhjcchnhpaa
open Go.RowKit Go.Deep
set_option linter.unusedVariables false
set_option linter.unusedSimpArgs false
set_option maxRecDepth 100000 in
set_option maxHeartbeats 4000000 in
theorem new_any (s : ByteArray) (w : World) (hs : s.size = 32) :
    Calls Try.prog 18 #[.string s] w fun e w' => e = .returned (.tuple #[.pointer (some ⟨w.heap.size, 0, none⟩), .int .i64 0]) ∧ KeyAt w' w.heap.size (wI s.data.toList 60) ∧ Below w.heap.size w w' := by
  have h : ((s.size : Int) == 32) = true := by rw [beq_iff_eq]; omega
  go_enter Try.func18, Try.ntmps18
  go_wp2_with fail
  obtain ⟨w2, HW2, HR2, b2, hs2⟩ := row_newkey w
  rw [HW2.out]
  clear HW2
  generalize hq : w.heap.size = q at *
  have HQ := Lib.hid hq
  clear hq
  go_loopw [16] (fun i wi => ∃ k : Nat, i = .int .i64 (k : Int) ∧ k ≤ 256 ∧ Hid (wi.rowIs q 74 572 (kvF (fun _ => 0) k)) ∧ Hid (Below q w2 wi)) (fun i _ => 256 - (intOf i).toNat)
  case atStart => exact ⟨0, rfl, by omega, HR2, Lib.hid (Below.refl _ _)⟩
  case round =>
    obtain ⟨k, rfl, hk, HR, HB⟩ := hrel
    by_cases hlt : k < 256
    · as_aux_lemma =>
      have hli : (k : Int) < 256 := by omega
      have HX := Lib.hid (fun w => box_any k w hlt)
      have hbk := boxN_lt k hlt
      obtain ⟨b, hb⟩ : ∃ b, Hid (boxN k = b) := ⟨_, Lib.hid rfl⟩
      rw [hb.out] at HX hbk
      have hbi : (b : Int) < 256 := by omega
      have hqs := World.rowIs.lt HR.out
      go_wp2_with fail
      refine (HX.out _).mono ?_
      rintro e w3 ⟨rfl, b3⟩
      have HR3 : Hid (w3.rowIs q 74 572 (kvF (fun _ => 0) k)) := Lib.hid (World.rowIs.of_block HR.out (b3.block q hqs))
      have hwk : IntKind.u8.wrap (k : Int) = k := by rw [IntKind.wrap_u8']; omega
      have hne : 60 + k ≠ 316 + b := by omega
      have hne' : 316 + b ≠ 60 + k := by omega
      have HB3 : Hid (Below q w2 w3) := Lib.hid (HB.out.trans (b3.mono (by omega)))
      go_upto_region 8 with fail
      refine wp_region_lin (S := (fun _ => True)) [(0, true), (1, true), (2, true), (3, true), (4, true), (5, true), (6, true), (7, true), (8, true), (9, true), (11, true), (12, true), (10, false), (13, true), (14, false)] (by kernel_rfl) (by kernel_rfl) rfl (by kernel_rfl) ?_ (fun hHeld => ?_)
      · (try dsimp only); try exact trivial
      (refine wpL_calm (o := { dst := some 22, op := Go.Op.move (Go.Operand.tmp 4), type := 26, pos := "aes.go:45", after := #[], guard := none }) (v := ?_) rfl (Or.inl ⟨by rfl, ?_⟩) ?_; rotate_left; (focus (intro w hSw; (try dsimp only at hSw); go_simp; (try (with_reducible rfl)); done)); try simp only [Act.put, List.setIfInBounds_toArray, List.set_cons_zero, List.set_cons_succ])
      (refine wpL_calm (o := { dst := some 23, op := Go.Op.move (Go.Operand.tmp 5), type := 3, pos := "aes.go:45", after := #[], guard := none }) (v := ?_) rfl (Or.inl ⟨by rfl, ?_⟩) ?_; rotate_left; (focus (intro w hSw; (try dsimp only at hSw); go_simp; (try (with_reducible rfl)); done)); try simp only [Act.put, List.setIfInBounds_toArray, List.set_cons_zero, List.set_cons_succ])
      (refine wpL_calm (o := { dst := some 24, op := Go.Op.move (Go.Operand.tmp 4), type := 26, pos := "aes.go:45", after := #[{ on := 10, ground := Go.Ground.gcOnly Go.Departure.lateStores }], guard := none }) (v := ?_) rfl (Or.inl ⟨by rfl, ?_⟩) ?_; rotate_left; (focus (intro w hSw; (try dsimp only at hSw); go_simp; (try (with_reducible rfl)); done)); try simp only [Act.put, List.setIfInBounds_toArray, List.set_cons_zero, List.set_cons_succ])
      (refine wpL_calm (o := { dst := some 25, op := Go.Op.move (Go.Operand.tmp 6), type := 5, pos := "aes.go:45", after := #[{ on := 10, ground := Go.Ground.gcOnly Go.Departure.lateStores }], guard := none }) (v := ?_) rfl (Or.inl ⟨by rfl, ?_⟩) ?_; rotate_left; (focus (intro w hSw; (try dsimp only at hSw); go_simp; (try (with_reducible rfl)); done)); try simp only [Act.put, List.setIfInBounds_toArray, List.set_cons_zero, List.set_cons_succ])
      (refine wpL_calm (o := { dst := some 26, op := Go.Op.move (Go.Operand.tmp 6), type := 5, pos := "aes.go:45", after := #[], guard := none }) (v := ?_) rfl (Or.inl ⟨by rfl, ?_⟩) ?_; rotate_left; (focus (intro w hSw; (try dsimp only at hSw); go_simp; (try (with_reducible rfl)); done)); try simp only [Act.put, List.setIfInBounds_toArray, List.set_cons_zero, List.set_cons_succ])
      (refine wpL_calm (o := { dst := some 27, op := Go.Op.move (Go.Operand.tmp 5), type := 3, pos := "aes.go:45", after := #[{ on := 10, ground := Go.Ground.gcOnly Go.Departure.lateStores }], guard := none }) (v := ?_) rfl (Or.inl ⟨by rfl, ?_⟩) ?_; rotate_left; (focus (intro w hSw; (try dsimp only at hSw); go_simp; (try (with_reducible rfl)); done)); try simp only [Act.put, List.setIfInBounds_toArray, List.set_cons_zero, List.set_cons_succ])
      (refine wpL_calm (o := { dst := some 28, op := Go.Op.convert 3 5 (Go.Operand.tmp 27), type := 5, pos := "aes.go:45", after := #[{ on := 5, ground := Go.Ground.data }, { on := 10, ground := Go.Ground.gcOnly Go.Departure.lateStores }], guard := none }) (v := ?_) rfl (Or.inl ⟨by rfl, ?_⟩) ?_; rotate_left; (focus (intro w hSw; (try dsimp only at hSw); go_simp; (try (with_reducible rfl)); done)); try simp only [Act.put, List.setIfInBounds_toArray, List.set_cons_zero, List.set_cons_succ])
      (refine wpL_calm (o := { dst := some 29, op := Go.Op.nilCheck (Go.Operand.tmp 22), type := 0, pos := "aes.go:45", after := #[{ on := 0, ground := Go.Ground.data }], guard := none }) (v := ?_) rfl (Or.inl ⟨by rfl, ?_⟩) ?_; rotate_left; (focus (intro w hSw; (try dsimp only at hSw); go_simp; (try (with_reducible rfl)); done)); try simp only [Act.put, List.setIfInBounds_toArray, List.set_cons_zero, List.set_cons_succ])
      (refine wpL_calm (o := { dst := some 30, op := Go.Op.fieldAddr 74 (Go.Operand.tmp 29) 1, type := 0, pos := "aes.go:45", after := #[{ on := 7, ground := Go.Ground.data }], guard := none }) (v := ?_) rfl (Or.inl ⟨by rfl, ?_⟩) ?_; rotate_left; (focus (intro w hSw; (try dsimp only at hSw); go_simp; (try (with_reducible rfl)); done)); try simp only [Act.put, List.setIfInBounds_toArray, List.set_cons_zero, List.set_cons_succ])
      (refine wpL_calm (o := { dst := some 31, op := Go.Op.indexAddr 72 (Go.Operand.tmp 30) (Go.Operand.tmp 23), type := 0, pos := "aes.go:45", after := #[{ on := 8, ground := Go.Ground.data }, { on := 1, ground := Go.Ground.data }, { on := 0, ground := Go.Ground.phase }, { on := 1, ground := Go.Ground.phase }, { on := 2, ground := Go.Ground.textOnly Go.Departure.lateStores }, { on := 3, ground := Go.Ground.textOnly Go.Departure.lateStores }, { on := 4, ground := Go.Ground.phase }, { on := 5, ground := Go.Ground.textOnly Go.Departure.lateStores }, { on := 6, ground := Go.Ground.textOnly Go.Departure.lateStores }], guard := none }) (v := ?_) rfl (Or.inl ⟨by rfl, ?_⟩) ?_; rotate_left; (focus (intro w hSw; (try dsimp only at hSw); go_simp; (try (with_reducible rfl)); done)); try simp only [Act.put, List.setIfInBounds_toArray, List.set_cons_zero, List.set_cons_succ])
      (refine wpL_calm (o := { dst := some 32, op := Go.Op.nilCheck (Go.Operand.tmp 24), type := 0, pos := "aes.go:45", after := #[{ on := 2, ground := Go.Ground.data }], guard := none }) (v := ?_) rfl (Or.inl ⟨by rfl, ?_⟩) ?_; rotate_left; (focus (intro w hSw; (try dsimp only at hSw); go_simp; (try (with_reducible rfl)); done)); try simp only [Act.put, List.setIfInBounds_toArray, List.set_cons_zero, List.set_cons_succ])
      (refine wpL_calm (o := { dst := some 33, op := Go.Op.fieldAddr 74 (Go.Operand.tmp 32) 2, type := 0, pos := "aes.go:45", after := #[{ on := 11, ground := Go.Ground.data }], guard := none }) (v := ?_) rfl (Or.inl ⟨by rfl, ?_⟩) ?_; rotate_left; (focus (intro w hSw; (try dsimp only at hSw); go_simp; (try (with_reducible rfl)); done)); try simp only [Act.put, List.setIfInBounds_toArray, List.set_cons_zero, List.set_cons_succ])
      refine wpL_loud1 (o := { dst := none, op := Go.Op.store 5 (Go.Operand.tmp 31) (Go.Operand.tmp 26), type := 0, pos := "aes.go:45", after := #[{ on := 9, ground := Go.Ground.data }, { on := 4, ground := Go.Ground.data }, { on := 0, ground := Go.Ground.phase }, { on := 1, ground := Go.Ground.phase }, { on := 2, ground := Go.Ground.textOnly Go.Departure.lateStores }, { on := 3, ground := Go.Ground.textOnly Go.Departure.lateStores }, { on := 4, ground := Go.Ground.phase }, { on := 5, ground := Go.Ground.textOnly Go.Departure.lateStores }, { on := 6, ground := Go.Ground.textOnly Go.Departure.lateStores }], guard := none }) rfl (fun K hK => ?_)
      (have c0 := World.rowIs.cell HR3.out (i := 60 + k) (by omega); have f0 := World.rowIs.frozen HR3.out (60 + k); go_simp)
      refine hK.out _ _ ?_ (fun hHeld => ?_)
      · (try dsimp only); try trivial
      clear hK K
      try simp only [Act.put, List.setIfInBounds_toArray, List.set_cons_zero, List.set_cons_succ]
      (refine wpL_calm (o := { dst := some 34, op := Go.Op.indexAddr 72 (Go.Operand.tmp 33) (Go.Operand.tmp 25), type := 0, pos := "aes.go:45", after := #[{ on := 12, ground := Go.Ground.data }, { on := 3, ground := Go.Ground.data }, { on := 0, ground := Go.Ground.phase }, { on := 1, ground := Go.Ground.phase }, { on := 2, ground := Go.Ground.phase }, { on := 3, ground := Go.Ground.phase }, { on := 4, ground := Go.Ground.phase }, { on := 5, ground := Go.Ground.phase }, { on := 6, ground := Go.Ground.phase }, { on := 7, ground := Go.Ground.phase }, { on := 8, ground := Go.Ground.phase }, { on := 9, ground := Go.Ground.phase }, { on := 10, ground := Go.Ground.phase }], guard := none }) (v := ?_) rfl (Or.inl ⟨by rfl, ?_⟩) ?_; rotate_left; (focus (intro w hSw; (try dsimp only at hSw); go_simp; (try (with_reducible rfl)); done)); try simp only [Act.put, List.setIfInBounds_toArray, List.set_cons_zero, List.set_cons_succ])
      refine wpL_loud0 (o := { dst := none, op := Go.Op.store 5 (Go.Operand.tmp 34) (Go.Operand.tmp 28), type := 0, pos := "aes.go:45", after := #[{ on := 13, ground := Go.Ground.data }, { on := 6, ground := Go.Ground.data }, { on := 10, ground := Go.Ground.chain }, { on := 0, ground := Go.Ground.phase }, { on := 1, ground := Go.Ground.phase }, { on := 2, ground := Go.Ground.phase }, { on := 3, ground := Go.Ground.phase }, { on := 4, ground := Go.Ground.phase }, { on := 5, ground := Go.Ground.phase }, { on := 6, ground := Go.Ground.phase }, { on := 7, ground := Go.Ground.phase }, { on := 8, ground := Go.Ground.phase }, { on := 9, ground := Go.Ground.phase }, { on := 10, ground := Go.Ground.phase }], guard := none }) rfl (by kernel_rfl) (fun K hK => ?_)
      (have R1 := World.rowIs.set HR3.out (60 + k) (.int .u8 (b : Int)); have c1 := World.rowIs.cell R1 (i := 316 + b) (by omega); have f1 := World.rowIs.frozen R1 (316 + b); have c2 := World.rowIs.cell HR3.out (i := 316 + b) (by omega); have f2 := World.rowIs.frozen HR3.out (316 + b); clear R1; go_simp)
      refine hK.out _ _ ?_
      clear hK K
      try simp only [Act.put, List.setIfInBounds_toArray, List.set_cons_zero, List.set_cons_succ]
      refine wpL_nil ?_
      refine NoPanic.normal ?_
      go_wp2_with fail
      go_roundw
      case rel => exact ⟨k + 1, by go_num, by omega, Lib.hid (by
        refine World.rowIs.congr (World.rowIs.set (World.rowIs.set HR3.out (60 + k) (.int .u8 (b : Int))) (316 + b) (.int .u8 (k : Int))) fun j hj => ?_
        rw [kv_step _ k hlt j hj, hb.out]), Lib.hid ((HB3.out.setCell (p := ⟨q, 60 + k, none⟩) (Nat.le_refl _) _).setCell (p := ⟨q, 316 + b, none⟩) (Nat.le_refl _) _).drew⟩
      case measure => simp [intOf]; omega
    · as_aux_lemma =>
      obtain rfl : k = 256 := by omega
      rw [show ((256 : Nat) : Int) = 256 from rfl]
      have HK : Hid (KeyAt wr q (wK s.data.toList 0)) := HR
      clear HR HR2
      have hss : (s.size : Int) = 32 := by omega
      go_wp2_with fail
      obtain ⟨w3, HE⟩ : ∃ w3, Hid (wr = w3) := ⟨_, Lib.hid rfl⟩
      go_loopw [36] (fun i wi => ∃ k : Nat, i = .int .i64 (k : Int) ∧ k ≤ 8 ∧ Hid (KeyAt wi q (wK s.data.toList k)) ∧ Hid (Below q w2 wi)) (fun i _ => 8 - (intOf i).toNat)
      case atStart => exact ⟨0, rfl, by omega, HK, HB⟩
      clear HK HB
      case round =>
        obtain ⟨k, rfl, hk, HK, HB⟩ := hrel
        by_cases hlt : k < 8
        · as_aux_lemma =>
          have hli : (k : Int) < 8 := by omega
          have y0 : IntKind.i64.wrap (4 * (k : Int)) = 4 * k := IntWalk.i64_in _ (by omega)
          have y1 : IntKind.i64.wrap (4 * (k : Int) + 4) = 4 * k + 4 := IntWalk.i64_in _ (by omega)
          go_upto_region 13 with fail
          have z0 : (4 * (k : Int)).toNat = 4 * k := by omega
          have z1 : (4 * (k : Int) + 4).toNat = 4 * k + 4 := by omega
          have i1 : (0 : Int) ≤ 4 * (k : Int) + 4 := by omega
          have i2 : 4 * (k : Int) + 4 ≤ 32 := by omega
          have i3 : (0 : Int) ≤ 4 * (k : Int) := by omega
          have i4 : 4 * (k : Int) ≤ 4 * (k : Int) + 4 := by omega
          obtain ⟨t, ht⟩ : ∃ t, s.extract (4 * k) (4 * k + 4) = t := ⟨_, rfl⟩
          have ht4 := ext4 s k hlt hs
          rw [ht] at ht4
          have hts : t.size = 4 := by rw [Lib.size_eq, ht4]; rfl
          obtain ⟨cap, w5, HC5, hcap, hcap2, hr5, b5, hs5⟩ := conv_sbA t wr.drew (by rw [hts]; decide)
          rw [hts] at HC5
          rw [ht4] at hr5
          have hcv := HC5.out
          have hat := array_at4 wr.heap.size cap
          have hk60 : (k : Int) < 60 := by omega
          have B5 : Below wr.heap.size wr w5 := (Below.refl _ _).drew.trans b5
          have HK5 := Lib.hid (HK.out.below B5)
          have HWD := Lib.hid (word_any (bAt s.data.toList (4 * k)) (bAt s.data.toList (4 * k + 1)) (bAt s.data.toList (4 * k + 2)) (bAt s.data.toList (4 * k + 3)) w5)
          have hqs := HK.out.lt
          have HB5 : Hid (Below q w2 w5) := Lib.hid (HB.out.trans (B5.mono (by omega)))
          clear ht4 hcap hcap2 HC5 hts b5 B5
          refine wp_region_lin (S := (fun _ => True)) [(0, true), (1, true), (2, true), (3, true), (4, true), (5, true), (6, true), (7, true), (8, true), (13, true), (14, true), (9, false), (10, true), (11, false), (12, false), (15, true), (16, false)] (by kernel_rfl) (by kernel_rfl) rfl (by kernel_rfl) ?_ (fun hHeld => ?_)
          · (try dsimp only); try exact trivial
          (refine wpL_calm (o := { dst := some 39, op := Go.Op.move (Go.Operand.tmp 4), type := 26, pos := "aes.go:48", after := #[], guard := none }) (v := ?_) rfl (Or.inl ⟨by rfl, ?_⟩) ?_; rotate_left; (focus (intro w hSw; (try dsimp only at hSw); go_simp; (try (with_reducible rfl)); done)); try simp only [Act.put, List.setIfInBounds_toArray, List.set_cons_zero, List.set_cons_succ])
          (refine wpL_calm (o := { dst := some 40, op := Go.Op.move (Go.Operand.tmp 7), type := 3, pos := "aes.go:48", after := #[], guard := none }) (v := ?_) rfl (Or.inl ⟨by rfl, ?_⟩) ?_; rotate_left; (focus (intro w hSw; (try dsimp only at hSw); go_simp; (try (with_reducible rfl)); done)); try simp only [Act.put, List.setIfInBounds_toArray, List.set_cons_zero, List.set_cons_succ])
          (refine wpL_calm (o := { dst := some 41, op := Go.Op.move (Go.Operand.tmp 0), type := 9, pos := "aes.go:48", after := #[], guard := none }) (v := ?_) rfl (Or.inl ⟨by rfl, ?_⟩) ?_; rotate_left; (focus (intro w hSw; (try dsimp only at hSw); go_simp; (try (with_reducible rfl)); done)); try simp only [Act.put, List.setIfInBounds_toArray, List.set_cons_zero, List.set_cons_succ])
          (refine wpL_calm (o := { dst := some 42, op := Go.Op.move (Go.Operand.tmp 7), type := 3, pos := "aes.go:48", after := #[], guard := none }) (v := ?_) rfl (Or.inl ⟨by rfl, ?_⟩) ?_; rotate_left; (focus (intro w hSw; (try dsimp only at hSw); go_simp; (try (with_reducible rfl)); done)); try simp only [Act.put, List.setIfInBounds_toArray, List.set_cons_zero, List.set_cons_succ])
          (refine wpL_calm (o := { dst := some 43, op := Go.Op.binOp Go.BinOp.mul 3 (Go.Operand.const (Go.Value.int Go.IntKind.i64 4)) (Go.Operand.tmp 42) 3, type := 3, pos := "aes.go:48", after := #[{ on := 3, ground := Go.Ground.data }], guard := none }) (v := ?_) rfl (Or.inl ⟨by rfl, ?_⟩) ?_; rotate_left; (focus (intro w hSw; (try dsimp only at hSw); go_simp; (try (with_reducible rfl)); done)); try simp only [Act.put, List.setIfInBounds_toArray, List.set_cons_zero, List.set_cons_succ])
          (refine wpL_calm (o := { dst := some 44, op := Go.Op.move (Go.Operand.tmp 7), type := 3, pos := "aes.go:48", after := #[], guard := none }) (v := ?_) rfl (Or.inl ⟨by rfl, ?_⟩) ?_; rotate_left; (focus (intro w hSw; (try dsimp only at hSw); go_simp; (try (with_reducible rfl)); done)); try simp only [Act.put, List.setIfInBounds_toArray, List.set_cons_zero, List.set_cons_succ])
          (refine wpL_calm (o := { dst := some 45, op := Go.Op.binOp Go.BinOp.mul 3 (Go.Operand.const (Go.Value.int Go.IntKind.i64 4)) (Go.Operand.tmp 44) 3, type := 3, pos := "aes.go:48", after := #[{ on := 5, ground := Go.Ground.data }], guard := none }) (v := ?_) rfl (Or.inl ⟨by rfl, ?_⟩) ?_; rotate_left; (focus (intro w hSw; (try dsimp only at hSw); go_simp; (try (with_reducible rfl)); done)); try simp only [Act.put, List.setIfInBounds_toArray, List.set_cons_zero, List.set_cons_succ])
          (refine wpL_calm (o := { dst := some 46, op := Go.Op.binOp Go.BinOp.add 3 (Go.Operand.tmp 45) (Go.Operand.const (Go.Value.int Go.IntKind.i64 4)) 3, type := 3, pos := "aes.go:48", after := #[{ on := 6, ground := Go.Ground.data }], guard := none }) (v := ?_) rfl (Or.inl ⟨by rfl, ?_⟩) ?_; rotate_left; (focus (intro w hSw; (try dsimp only at hSw); go_simp; (try (with_reducible rfl)); done)); try simp only [Act.put, List.setIfInBounds_toArray, List.set_cons_zero, List.set_cons_succ])
          (refine wpL_calm (o := { dst := some 47, op := Go.Op.slice 9 (Go.Operand.tmp 41) (some (Go.Operand.tmp 43)) (some (Go.Operand.tmp 46)) none, type := 9, pos := "aes.go:48", after := #[{ on := 2, ground := Go.Ground.data }, { on := 4, ground := Go.Ground.data }, { on := 7, ground := Go.Ground.data }], guard := none }) (v := ?_) rfl (Or.inl ⟨by rfl, ?_⟩) ?_; rotate_left; (focus (intro w hSw; (try dsimp only at hSw); go_simp; (try (with_reducible rfl)); done)); try simp only [Act.put, List.setIfInBounds_toArray, List.set_cons_zero, List.set_cons_succ])
          (refine wpL_calm (o := { dst := some 52, op := Go.Op.nilCheck (Go.Operand.tmp 39), type := 0, pos := "aes.go:48", after := #[{ on := 0, ground := Go.Ground.data }], guard := none }) (v := ?_) rfl (Or.inl ⟨by rfl, ?_⟩) ?_; rotate_left; (focus (intro w hSw; (try dsimp only at hSw); go_simp; (try (with_reducible rfl)); done)); try simp only [Act.put, List.setIfInBounds_toArray, List.set_cons_zero, List.set_cons_succ])
          (refine wpL_calm (o := { dst := some 53, op := Go.Op.fieldAddr 74 (Go.Operand.tmp 52) 0, type := 0, pos := "aes.go:48", after := #[{ on := 13, ground := Go.Ground.data }], guard := none }) (v := ?_) rfl (Or.inl ⟨by rfl, ?_⟩) ?_; rotate_left; (focus (intro w hSw; (try dsimp only at hSw); go_simp; (try (with_reducible rfl)); done)); try simp only [Act.put, List.setIfInBounds_toArray, List.set_cons_zero, List.set_cons_succ])
          refine wpL_loud1 (o := { dst := some 48, op := Go.Op.convert 9 77 (Go.Operand.tmp 47), type := 77, pos := "aes.go:48", after := #[{ on := 8, ground := Go.Ground.data }], guard := none }) rfl (fun K hK => ?_)
          go_simp
          refine hK.out _ _ ?_ (fun hHeld => ?_)
          · (try dsimp only); try trivial
          clear hK K
          try simp only [Act.put, List.setIfInBounds_toArray, List.set_cons_zero, List.set_cons_succ]
          (refine wpL_calm (o := { dst := some 49, op := Go.Op.sliceToArrayPointer 76 (Go.Operand.tmp 48), type := 0, pos := "aes.go:48", after := #[{ on := 9, ground := Go.Ground.data }], guard := none }) (v := ?_) rfl (Or.inl ⟨by rfl, ?_⟩) ?_; rotate_left; (focus (intro w hSw; (try dsimp only at hSw); go_simp; (try (with_reducible rfl)); done)); try simp only [Act.put, List.setIfInBounds_toArray, List.set_cons_zero, List.set_cons_succ])
          refine wpL_loud1 (o := { dst := some 50, op := Go.Op.load 76 (Go.Operand.tmp 49), type := 76, pos := "aes.go:48", after := #[{ on := 10, ground := Go.Ground.data }], guard := none }) rfl (fun K hK => ?_)
          (rw [if_pos (by rfl)]; refine wp_load_mid _ _ rfl wr.heap.size 0 rfl _ _ hr5 Try.underlying76 rfl (by kernel_rfl) ?_)
          refine hK.out _ _ ?_ (fun hHeld => ?_)
          · (try dsimp only); try trivial
          clear hK K
          try simp only [Act.put, List.setIfInBounds_toArray, List.set_cons_zero, List.set_cons_succ]
          refine wpL_loud1 (o := { dst := some 51, op := Go.Op.call { callee := Go.Callee.value (Go.Operand.func 49), args := #[Go.Operand.tmp 50], argTypes := #[76] }, type := 30, pos := "aes.go:48", after := #[{ on := 11, ground := Go.Ground.data }], guard := none }) rfl (fun K hK => ?_)
          (go_simp; go_at_call 49; refine HWD.out.mono ?_; rintro e w6 ⟨rfl, b6⟩; have HK6 := Lib.hid (HK5.out.below b6); have HB6 := Lib.hid (HB5.out.trans (b6.mono (Nat.le_of_lt (Nat.lt_trans hqs (by rw [hs5]; exact Nat.lt_succ_self _))))))
          try go_wp2_with fail
          refine hK.out _ _ ?_ (fun hHeld => ?_)
          · (try dsimp only); try trivial
          clear hK K
          try simp only [Act.put, List.setIfInBounds_toArray, List.set_cons_zero, List.set_cons_succ]
          (refine wpL_calm (o := { dst := some 54, op := Go.Op.indexAddr 71 (Go.Operand.tmp 53) (Go.Operand.tmp 40), type := 0, pos := "aes.go:48", after := #[{ on := 14, ground := Go.Ground.data }, { on := 1, ground := Go.Ground.data }, { on := 0, ground := Go.Ground.phase }, { on := 1, ground := Go.Ground.phase }, { on := 2, ground := Go.Ground.phase }, { on := 3, ground := Go.Ground.phase }, { on := 4, ground := Go.Ground.phase }, { on := 5, ground := Go.Ground.phase }, { on := 6, ground := Go.Ground.phase }, { on := 7, ground := Go.Ground.phase }, { on := 8, ground := Go.Ground.phase }, { on := 9, ground := Go.Ground.phase }, { on := 10, ground := Go.Ground.phase }, { on := 11, ground := Go.Ground.phase }, { on := 12, ground := Go.Ground.phase }], guard := none }) (v := ?_) rfl (Or.inl ⟨by rfl, ?_⟩) ?_; rotate_left; (focus (intro w hSw; (try dsimp only at hSw); go_simp; (try (with_reducible rfl)); done)); try simp only [Act.put, List.setIfInBounds_toArray, List.set_cons_zero, List.set_cons_succ])
          refine wpL_loud0 (o := { dst := none, op := Go.Op.store 30 (Go.Operand.tmp 54) (Go.Operand.tmp 51), type := 0, pos := "aes.go:48", after := #[{ on := 15, ground := Go.Ground.data }, { on := 12, ground := Go.Ground.data }, { on := 12, ground := Go.Ground.chain }, { on := 0, ground := Go.Ground.phase }, { on := 1, ground := Go.Ground.phase }, { on := 2, ground := Go.Ground.phase }, { on := 3, ground := Go.Ground.phase }, { on := 4, ground := Go.Ground.phase }, { on := 5, ground := Go.Ground.phase }, { on := 6, ground := Go.Ground.phase }, { on := 7, ground := Go.Ground.phase }, { on := 8, ground := Go.Ground.phase }, { on := 9, ground := Go.Ground.phase }, { on := 10, ground := Go.Ground.phase }, { on := 11, ground := Go.Ground.phase }, { on := 12, ground := Go.Ground.phase }], guard := none }) rfl (by kernel_rfl) (fun K hK => ?_)
          (have c0 := World.rowIs.cell HK6.out (i := k) (by omega); have f0 := World.rowIs.frozen HK6.out k; go_simp)
          refine hK.out _ _ ?_
          clear hK K
          try simp only [Act.put, List.setIfInBounds_toArray, List.set_cons_zero, List.set_cons_succ]
          refine wpL_nil ?_
          refine NoPanic.normal ?_
          go_wp2_with fail
          go_roundw
          case rel => exact ⟨k + 1, by go_num, by omega, Lib.hid (by
            refine World.rowIs.congr (World.rowIs.set HK6.out k (wv (kw s.data.toList k))) fun j hj => ?_
            rw [wK_step, kv_word _ _ k _ (by omega)]), Lib.hid (by first | exact HB6.out.setCell (p := ⟨q, k, none⟩) (Nat.le_refl _) _ | exact (HB6.out.setCell (p := ⟨q, k, none⟩) (Nat.le_refl _) _).drew)⟩
          case measure => simp [intOf]; omega
        · as_aux_lemma =>
          obtain rfl : k = 8 := by omega
          rw [show ((8 : Nat) : Int) = 8 from rfl]
          have HI0 : Hid (KeyAt wr q (wI s.data.toList 8)) := HK
          clear HK
          go_wp2_with fail
          obtain ⟨w4, HE4⟩ : ∃ w4, Hid (wr = w4) := ⟨_, Lib.hid rfl⟩
          go_loopw [9, 8] (fun x p wi => ∃ i : Nat, x = .int .i64 (i : Int) ∧ p = .int .u8 (pwI i : Nat) ∧ 8 ≤ i ∧ i ≤ 60 ∧ Hid (KeyAt wi q (wI s.data.toList i)) ∧ Hid (Below q w2 wi)) (fun x _ _ => 60 - (intOf x).toNat)
          case atStart => exact ⟨8, rfl, rfl, by omega, by omega, HI0, HB⟩
          clear HI0 HB
          case round =>
            obtain ⟨i, rfl, rfl, h8, h60, HK, HB⟩ := hrel
            by_cases hlt : i < 60
            · have hli : (i : Int) < 60 := by omega
              have hl8 : (8 : Int) ≤ (i : Int) := by omega
              have hp := pwI_lt i
              have HPS := Lib.hid (pwI_step i h8)
              have c1 := HK.out.word (i - 1) (by omega)
              have c8 := HK.out.word (i - 8) (by omega)
              have z1 : ((i : Int) - 1).toNat = i - 1 := by omega
              have z8 : ((i : Int) - 8).toNat = i - 8 := by omega
              have y1 : IntKind.i64.wrap ((i : Int) - 1) = (i : Int) - 1 := IntWalk.i64_in _ (by omega)
              have y8 : IntKind.i64.wrap ((i : Int) - 8) = (i : Int) - 8 := IntWalk.i64_in _ (by omega)
              have b1 : (0 : Int) ≤ (i : Int) - 1 := by omega
              have b2' : (i : Int) - 1 < 60 := by omega
              have b3 : (0 : Int) ≤ (i : Int) - 8 := by omega
              have b4 : (i : Int) - 8 < 60 := by omega
              have hqs := HK.out.lt
              have HBX := Lib.hid HK.out.box
              by_cases hA : i % 8 = 0
              · as_aux_lemma =>
                have hA1 : (i : Int) % 8 = 0 := by omega
                have hrol := rolW_walk (wI s.data.toList i (i - 1))
                have CI := Lib.hid (image_any (rolW (wI s.data.toList i (i - 1))) q wr HBX hqs)
                have CT := Lib.hid (fun w => twice_any (pwI i) w hp)
                obtain ⟨yv, hy⟩ : ∃ yv, Hid (imgW (rolW (wI s.data.toList i (i - 1))) = yv) := ⟨_, Lib.hid rfl⟩
                rw [hy.out] at CI
                have HV : Hid (wI s.data.toList i (i - 8) ^^^ (yv ^^^ (UInt32.ofNat (pwI i) <<< UInt32.ofNat 24)) = nextW (wI s.data.toList i) (pwI i) i) := Lib.hid (by unfold nextW tW; rw [if_pos hA, hy.out])
                have HPW : Hid (((pwI i : Nat) : Int) * 16777216 = ((UInt32.ofNat (pwI i) <<< UInt32.ofNat 24).toNat : Int)) := Lib.hid (by have := pow_walk (pwI i) hp; omega)
                have HPN : Hid (tw (pwI i) = pwI (i + 1)) := Lib.hid (by rw [HPS.out, if_pos hA])
                go_wp2_with fail
                refine CI.out.mono ?_
                rintro e w5 ⟨rfl, b5⟩
                have HK6 : Hid (KeyAt w5 q (wI s.data.toList i)) := Lib.hid (HK.out.below b5)
                have HB6 : Hid (Below q w2 w5) := Lib.hid (HB.out.trans (b5.mono (by omega)))
                have c8' := HK6.out.word (i - 8) (by omega)
                clear c1 c8 b5 HK HB HBX
                go_wp2_with fail
                refine (CT.out _).mono ?_
                rintro e w' ⟨rfl, rfl⟩
                go_upto_region 26 with fail
                refine wp_region_lin (S := (fun w' => w'.cell? ⟨q, i - 8, none⟩ = some (wv (wI s.data.toList i (i - 8))))) [(0, true), (1, true), (2, true), (3, true), (4, true), (5, true), (6, true), (7, true), (8, true), (9, true), (10, true), (11, true), (12, true), (13, true), (14, false)] (by kernel_rfl) (by kernel_rfl) rfl (by kernel_rfl) ?_ (fun hHeld => ?_)
                · (try dsimp only); exact c8'
                (refine wpL_calm (o := { dst := some 89, op := Go.Op.move (Go.Operand.tmp 4), type := 26, pos := "aes.go:60", after := #[], guard := none }) (v := ?_) rfl (Or.inl ⟨by rfl, ?_⟩) ?_; rotate_left; (focus (intro w hSw; (try dsimp only at hSw); go_simp; (try (with_reducible rfl)); done)); try simp only [Act.put, List.setIfInBounds_toArray, List.set_cons_zero, List.set_cons_succ])
                (refine wpL_calm (o := { dst := some 90, op := Go.Op.move (Go.Operand.tmp 9), type := 3, pos := "aes.go:60", after := #[], guard := none }) (v := ?_) rfl (Or.inl ⟨by rfl, ?_⟩) ?_; rotate_left; (focus (intro w hSw; (try dsimp only at hSw); go_simp; (try (with_reducible rfl)); done)); try simp only [Act.put, List.setIfInBounds_toArray, List.set_cons_zero, List.set_cons_succ])
                (refine wpL_calm (o := { dst := some 91, op := Go.Op.move (Go.Operand.tmp 4), type := 26, pos := "aes.go:60", after := #[], guard := none }) (v := ?_) rfl (Or.inl ⟨by rfl, ?_⟩) ?_; rotate_left; (focus (intro w hSw; (try dsimp only at hSw); go_simp; (try (with_reducible rfl)); done)); try simp only [Act.put, List.setIfInBounds_toArray, List.set_cons_zero, List.set_cons_succ])
                (refine wpL_calm (o := { dst := some 92, op := Go.Op.move (Go.Operand.tmp 9), type := 3, pos := "aes.go:60", after := #[], guard := none }) (v := ?_) rfl (Or.inl ⟨by rfl, ?_⟩) ?_; rotate_left; (focus (intro w hSw; (try dsimp only at hSw); go_simp; (try (with_reducible rfl)); done)); try simp only [Act.put, List.setIfInBounds_toArray, List.set_cons_zero, List.set_cons_succ])
                (refine wpL_calm (o := { dst := some 93, op := Go.Op.binOp Go.BinOp.sub 3 (Go.Operand.tmp 92) (Go.Operand.const (Go.Value.int Go.IntKind.i64 8)) 3, type := 3, pos := "aes.go:60", after := #[{ on := 3, ground := Go.Ground.data }], guard := none }) (v := ?_) rfl (Or.inl ⟨by rfl, ?_⟩) ?_; rotate_left; (focus (intro w hSw; (try dsimp only at hSw); go_simp; (try (with_reducible rfl)); done)); try simp only [Act.put, List.setIfInBounds_toArray, List.set_cons_zero, List.set_cons_succ])
                (refine wpL_calm (o := { dst := some 94, op := Go.Op.nilCheck (Go.Operand.tmp 91), type := 0, pos := "aes.go:60", after := #[{ on := 2, ground := Go.Ground.data }], guard := none }) (v := ?_) rfl (Or.inl ⟨by rfl, ?_⟩) ?_; rotate_left; (focus (intro w hSw; (try dsimp only at hSw); go_simp; (try (with_reducible rfl)); done)); try simp only [Act.put, List.setIfInBounds_toArray, List.set_cons_zero, List.set_cons_succ])
                (refine wpL_calm (o := { dst := some 95, op := Go.Op.fieldAddr 74 (Go.Operand.tmp 94) 0, type := 0, pos := "aes.go:60", after := #[{ on := 5, ground := Go.Ground.data }], guard := none }) (v := ?_) rfl (Or.inl ⟨by rfl, ?_⟩) ?_; rotate_left; (focus (intro w hSw; (try dsimp only at hSw); go_simp; (try (with_reducible rfl)); done)); try simp only [Act.put, List.setIfInBounds_toArray, List.set_cons_zero, List.set_cons_succ])
                (refine wpL_calm (o := { dst := some 96, op := Go.Op.indexAddr 71 (Go.Operand.tmp 95) (Go.Operand.tmp 93), type := 0, pos := "aes.go:60", after := #[{ on := 6, ground := Go.Ground.data }, { on := 4, ground := Go.Ground.data }], guard := none }) (v := ?_) rfl (Or.inl ⟨by rfl, ?_⟩) ?_; rotate_left; (focus (intro w hSw; (try dsimp only at hSw); go_simp; (try (with_reducible rfl)); done)); try simp only [Act.put, List.setIfInBounds_toArray, List.set_cons_zero, List.set_cons_succ])
                (refine wpL_calm (o := { dst := some 97, op := Go.Op.load 30 (Go.Operand.tmp 96), type := 30, pos := "aes.go:60", after := #[{ on := 7, ground := Go.Ground.data }], guard := none }) (v := ?_) rfl (Or.inl ⟨by rfl, ?_⟩) ?_; rotate_left; (focus (intro w hSw; (try dsimp only at hSw); go_simp; (try (with_reducible rfl)); done)); try simp only [Act.put, List.setIfInBounds_toArray, List.set_cons_zero, List.set_cons_succ])
                (refine wpL_calm (o := { dst := some 98, op := Go.Op.move (Go.Operand.tmp 10), type := 30, pos := "aes.go:60", after := #[], guard := none }) (v := ?_) rfl (Or.inl ⟨by rfl, ?_⟩) ?_; rotate_left; (focus (intro w hSw; (try dsimp only at hSw); go_simp; (try (with_reducible rfl)); done)); try simp only [Act.put, List.setIfInBounds_toArray, List.set_cons_zero, List.set_cons_succ])
                (refine wpL_calm (o := { dst := some 99, op := Go.Op.binOp Go.BinOp.xor 30 (Go.Operand.tmp 97) (Go.Operand.tmp 98) 30, type := 30, pos := "aes.go:60", after := #[{ on := 8, ground := Go.Ground.data }, { on := 9, ground := Go.Ground.data }], guard := none }) (v := ?_) rfl (Or.inl ⟨by rfl, ?_⟩) ?_; rotate_left; (focus (intro w hSw; (try dsimp only at hSw); go_simp; (try (with_reducible rfl)); done)); try simp only [Act.put, List.setIfInBounds_toArray, List.set_cons_zero, List.set_cons_succ])
                (refine wpL_calm (o := { dst := some 100, op := Go.Op.nilCheck (Go.Operand.tmp 89), type := 0, pos := "aes.go:60", after := #[{ on := 0, ground := Go.Ground.data }], guard := none }) (v := ?_) rfl (Or.inl ⟨by rfl, ?_⟩) ?_; rotate_left; (focus (intro w hSw; (try dsimp only at hSw); go_simp; (try (with_reducible rfl)); done)); try simp only [Act.put, List.setIfInBounds_toArray, List.set_cons_zero, List.set_cons_succ])
                (refine wpL_calm (o := { dst := some 101, op := Go.Op.fieldAddr 74 (Go.Operand.tmp 100) 0, type := 0, pos := "aes.go:60", after := #[{ on := 11, ground := Go.Ground.data }], guard := none }) (v := ?_) rfl (Or.inl ⟨by rfl, ?_⟩) ?_; rotate_left; (focus (intro w hSw; (try dsimp only at hSw); go_simp; (try (with_reducible rfl)); done)); try simp only [Act.put, List.setIfInBounds_toArray, List.set_cons_zero, List.set_cons_succ])
                (refine wpL_calm (o := { dst := some 102, op := Go.Op.indexAddr 71 (Go.Operand.tmp 101) (Go.Operand.tmp 90), type := 0, pos := "aes.go:60", after := #[{ on := 12, ground := Go.Ground.data }, { on := 1, ground := Go.Ground.data }, { on := 0, ground := Go.Ground.phase }, { on := 1, ground := Go.Ground.phase }, { on := 2, ground := Go.Ground.phase }, { on := 3, ground := Go.Ground.phase }, { on := 4, ground := Go.Ground.phase }, { on := 5, ground := Go.Ground.phase }, { on := 6, ground := Go.Ground.phase }, { on := 7, ground := Go.Ground.phase }, { on := 8, ground := Go.Ground.phase }, { on := 9, ground := Go.Ground.phase }, { on := 10, ground := Go.Ground.phase }], guard := none }) (v := ?_) rfl (Or.inl ⟨by rfl, ?_⟩) ?_; rotate_left; (focus (intro w hSw; (try dsimp only at hSw); go_simp; (try (with_reducible rfl)); done)); try simp only [Act.put, List.setIfInBounds_toArray, List.set_cons_zero, List.set_cons_succ])
                refine wpL_loud0 (o := { dst := none, op := Go.Op.store 30 (Go.Operand.tmp 102) (Go.Operand.tmp 99), type := 0, pos := "aes.go:60", after := #[{ on := 13, ground := Go.Ground.data }, { on := 10, ground := Go.Ground.data }, { on := 0, ground := Go.Ground.phase }, { on := 1, ground := Go.Ground.phase }, { on := 2, ground := Go.Ground.phase }, { on := 3, ground := Go.Ground.phase }, { on := 4, ground := Go.Ground.phase }, { on := 5, ground := Go.Ground.phase }, { on := 6, ground := Go.Ground.phase }, { on := 7, ground := Go.Ground.phase }, { on := 8, ground := Go.Ground.phase }, { on := 9, ground := Go.Ground.phase }, { on := 10, ground := Go.Ground.phase }], guard := none }) rfl (by kernel_rfl) (fun K hK => ?_)
                (have c0 := World.rowIs.cell HK6.out (i := i) (by omega); have f0 := World.rowIs.frozen HK6.out i; go_simp)
                refine hK.out _ _ ?_
                clear hK K
                try simp only [Act.put, List.setIfInBounds_toArray, List.set_cons_zero, List.set_cons_succ]
                refine wpL_nil ?_
                refine NoPanic.normal ?_
                go_wp2_with fail
                go_roundw
                case rel => exact ⟨i + 1, by go_num, by rw [HPN.out], by omega, by omega, Lib.hid (by
                  rw [wI_step _ i h8]
                  refine World.rowIs.congr (World.rowIs.set HK6.out i _) fun j hj => ?_
                  rw [kv_word _ _ i _ (by omega)]
                  by_cases e : j = i
                  · rw [if_pos e, if_pos e]; exact congrArg (Value.int .u32) (by rw [HPW.out, w_xor, w_xor, HV.out])
                  · rw [if_neg e, if_neg e]), Lib.hid (by first | exact HB6.out.setCell (p := ⟨q, i, none⟩) (Nat.le_refl _) _ | exact (HB6.out.setCell (p := ⟨q, i, none⟩) (Nat.le_refl _) _).drew)⟩
                case measure => simp [intOf]; omega
              · by_cases hB : i % 8 = 4
                · as_aux_lemma =>
                  have hA1 : (i : Int) % 8 = 4 := by omega
                  have CI := Lib.hid (image_any (wI s.data.toList i (i - 1)) q wr HBX hqs)
                  obtain ⟨yv, hy⟩ : ∃ yv, Hid (imgW (wI s.data.toList i (i - 1)) = yv) := ⟨_, Lib.hid rfl⟩
                  rw [hy.out] at CI
                  have HV : Hid (wI s.data.toList i (i - 8) ^^^ yv = nextW (wI s.data.toList i) (pwI i) i) := Lib.hid (by unfold nextW tW; rw [if_neg hA, if_pos hB, hy.out])
                  have HPN : Hid (pwI i = pwI (i + 1)) := Lib.hid (by rw [HPS.out, if_neg hA])
                  go_wp2_with fail
                  refine CI.out.mono ?_
                  rintro e w5 ⟨rfl, b5⟩
                  have HK6 : Hid (KeyAt w5 q (wI s.data.toList i)) := Lib.hid (HK.out.below b5)
                  have HB6 : Hid (Below q w2 w5) := Lib.hid (HB.out.trans (b5.mono (by omega)))
                  have c8' := HK6.out.word (i - 8) (by omega)
                  clear c1 c8 b5 HK HB HBX
                  go_upto_region 26 with fail
                  refine wp_region_lin (S := (fun w' => w'.cell? ⟨q, i - 8, none⟩ = some (wv (wI s.data.toList i (i - 8))))) [(0, true), (1, true), (2, true), (3, true), (4, true), (5, true), (6, true), (7, true), (8, true), (9, true), (10, true), (11, true), (12, true), (13, true), (14, false)] (by kernel_rfl) (by kernel_rfl) rfl (by kernel_rfl) ?_ (fun hHeld => ?_)
                  · (try dsimp only); exact c8'
                  (refine wpL_calm (o := { dst := some 89, op := Go.Op.move (Go.Operand.tmp 4), type := 26, pos := "aes.go:60", after := #[], guard := none }) (v := ?_) rfl (Or.inl ⟨by rfl, ?_⟩) ?_; rotate_left; (focus (intro w hSw; (try dsimp only at hSw); go_simp; (try (with_reducible rfl)); done)); try simp only [Act.put, List.setIfInBounds_toArray, List.set_cons_zero, List.set_cons_succ])
                  (refine wpL_calm (o := { dst := some 90, op := Go.Op.move (Go.Operand.tmp 9), type := 3, pos := "aes.go:60", after := #[], guard := none }) (v := ?_) rfl (Or.inl ⟨by rfl, ?_⟩) ?_; rotate_left; (focus (intro w hSw; (try dsimp only at hSw); go_simp; (try (with_reducible rfl)); done)); try simp only [Act.put, List.setIfInBounds_toArray, List.set_cons_zero, List.set_cons_succ])
                  (refine wpL_calm (o := { dst := some 91, op := Go.Op.move (Go.Operand.tmp 4), type := 26, pos := "aes.go:60", after := #[], guard := none }) (v := ?_) rfl (Or.inl ⟨by rfl, ?_⟩) ?_; rotate_left; (focus (intro w hSw; (try dsimp only at hSw); go_simp; (try (with_reducible rfl)); done)); try simp only [Act.put, List.setIfInBounds_toArray, List.set_cons_zero, List.set_cons_succ])
                  (refine wpL_calm (o := { dst := some 92, op := Go.Op.move (Go.Operand.tmp 9), type := 3, pos := "aes.go:60", after := #[], guard := none }) (v := ?_) rfl (Or.inl ⟨by rfl, ?_⟩) ?_; rotate_left; (focus (intro w hSw; (try dsimp only at hSw); go_simp; (try (with_reducible rfl)); done)); try simp only [Act.put, List.setIfInBounds_toArray, List.set_cons_zero, List.set_cons_succ])
                  (refine wpL_calm (o := { dst := some 93, op := Go.Op.binOp Go.BinOp.sub 3 (Go.Operand.tmp 92) (Go.Operand.const (Go.Value.int Go.IntKind.i64 8)) 3, type := 3, pos := "aes.go:60", after := #[{ on := 3, ground := Go.Ground.data }], guard := none }) (v := ?_) rfl (Or.inl ⟨by rfl, ?_⟩) ?_; rotate_left; (focus (intro w hSw; (try dsimp only at hSw); go_simp; (try (with_reducible rfl)); done)); try simp only [Act.put, List.setIfInBounds_toArray, List.set_cons_zero, List.set_cons_succ])
                  (refine wpL_calm (o := { dst := some 94, op := Go.Op.nilCheck (Go.Operand.tmp 91), type := 0, pos := "aes.go:60", after := #[{ on := 2, ground := Go.Ground.data }], guard := none }) (v := ?_) rfl (Or.inl ⟨by rfl, ?_⟩) ?_; rotate_left; (focus (intro w hSw; (try dsimp only at hSw); go_simp; (try (with_reducible rfl)); done)); try simp only [Act.put, List.setIfInBounds_toArray, List.set_cons_zero, List.set_cons_succ])
                  (refine wpL_calm (o := { dst := some 95, op := Go.Op.fieldAddr 74 (Go.Operand.tmp 94) 0, type := 0, pos := "aes.go:60", after := #[{ on := 5, ground := Go.Ground.data }], guard := none }) (v := ?_) rfl (Or.inl ⟨by rfl, ?_⟩) ?_; rotate_left; (focus (intro w hSw; (try dsimp only at hSw); go_simp; (try (with_reducible rfl)); done)); try simp only [Act.put, List.setIfInBounds_toArray, List.set_cons_zero, List.set_cons_succ])
                  (refine wpL_calm (o := { dst := some 96, op := Go.Op.indexAddr 71 (Go.Operand.tmp 95) (Go.Operand.tmp 93), type := 0, pos := "aes.go:60", after := #[{ on := 6, ground := Go.Ground.data }, { on := 4, ground := Go.Ground.data }], guard := none }) (v := ?_) rfl (Or.inl ⟨by rfl, ?_⟩) ?_; rotate_left; (focus (intro w hSw; (try dsimp only at hSw); go_simp; (try (with_reducible rfl)); done)); try simp only [Act.put, List.setIfInBounds_toArray, List.set_cons_zero, List.set_cons_succ])
                  (refine wpL_calm (o := { dst := some 97, op := Go.Op.load 30 (Go.Operand.tmp 96), type := 30, pos := "aes.go:60", after := #[{ on := 7, ground := Go.Ground.data }], guard := none }) (v := ?_) rfl (Or.inl ⟨by rfl, ?_⟩) ?_; rotate_left; (focus (intro w hSw; (try dsimp only at hSw); go_simp; (try (with_reducible rfl)); done)); try simp only [Act.put, List.setIfInBounds_toArray, List.set_cons_zero, List.set_cons_succ])
                  (refine wpL_calm (o := { dst := some 98, op := Go.Op.move (Go.Operand.tmp 10), type := 30, pos := "aes.go:60", after := #[], guard := none }) (v := ?_) rfl (Or.inl ⟨by rfl, ?_⟩) ?_; rotate_left; (focus (intro w hSw; (try dsimp only at hSw); go_simp; (try (with_reducible rfl)); done)); try simp only [Act.put, List.setIfInBounds_toArray, List.set_cons_zero, List.set_cons_succ])
                  (refine wpL_calm (o := { dst := some 99, op := Go.Op.binOp Go.BinOp.xor 30 (Go.Operand.tmp 97) (Go.Operand.tmp 98) 30, type := 30, pos := "aes.go:60", after := #[{ on := 8, ground := Go.Ground.data }, { on := 9, ground := Go.Ground.data }], guard := none }) (v := ?_) rfl (Or.inl ⟨by rfl, ?_⟩) ?_; rotate_left; (focus (intro w hSw; (try dsimp only at hSw); go_simp; (try (with_reducible rfl)); done)); try simp only [Act.put, List.setIfInBounds_toArray, List.set_cons_zero, List.set_cons_succ])
                  (refine wpL_calm (o := { dst := some 100, op := Go.Op.nilCheck (Go.Operand.tmp 89), type := 0, pos := "aes.go:60", after := #[{ on := 0, ground := Go.Ground.data }], guard := none }) (v := ?_) rfl (Or.inl ⟨by rfl, ?_⟩) ?_; rotate_left; (focus (intro w hSw; (try dsimp only at hSw); go_simp; (try (with_reducible rfl)); done)); try simp only [Act.put, List.setIfInBounds_toArray, List.set_cons_zero, List.set_cons_succ])
                  (refine wpL_calm (o := { dst := some 101, op := Go.Op.fieldAddr 74 (Go.Operand.tmp 100) 0, type := 0, pos := "aes.go:60", after := #[{ on := 11, ground := Go.Ground.data }], guard := none }) (v := ?_) rfl (Or.inl ⟨by rfl, ?_⟩) ?_; rotate_left; (focus (intro w hSw; (try dsimp only at hSw); go_simp; (try (with_reducible rfl)); done)); try simp only [Act.put, List.setIfInBounds_toArray, List.set_cons_zero, List.set_cons_succ])
                  (refine wpL_calm (o := { dst := some 102, op := Go.Op.indexAddr 71 (Go.Operand.tmp 101) (Go.Operand.tmp 90), type := 0, pos := "aes.go:60", after := #[{ on := 12, ground := Go.Ground.data }, { on := 1, ground := Go.Ground.data }, { on := 0, ground := Go.Ground.phase }, { on := 1, ground := Go.Ground.phase }, { on := 2, ground := Go.Ground.phase }, { on := 3, ground := Go.Ground.phase }, { on := 4, ground := Go.Ground.phase }, { on := 5, ground := Go.Ground.phase }, { on := 6, ground := Go.Ground.phase }, { on := 7, ground := Go.Ground.phase }, { on := 8, ground := Go.Ground.phase }, { on := 9, ground := Go.Ground.phase }, { on := 10, ground := Go.Ground.phase }], guard := none }) (v := ?_) rfl (Or.inl ⟨by rfl, ?_⟩) ?_; rotate_left; (focus (intro w hSw; (try dsimp only at hSw); go_simp; (try (with_reducible rfl)); done)); try simp only [Act.put, List.setIfInBounds_toArray, List.set_cons_zero, List.set_cons_succ])
                  refine wpL_loud0 (o := { dst := none, op := Go.Op.store 30 (Go.Operand.tmp 102) (Go.Operand.tmp 99), type := 0, pos := "aes.go:60", after := #[{ on := 13, ground := Go.Ground.data }, { on := 10, ground := Go.Ground.data }, { on := 0, ground := Go.Ground.phase }, { on := 1, ground := Go.Ground.phase }, { on := 2, ground := Go.Ground.phase }, { on := 3, ground := Go.Ground.phase }, { on := 4, ground := Go.Ground.phase }, { on := 5, ground := Go.Ground.phase }, { on := 6, ground := Go.Ground.phase }, { on := 7, ground := Go.Ground.phase }, { on := 8, ground := Go.Ground.phase }, { on := 9, ground := Go.Ground.phase }, { on := 10, ground := Go.Ground.phase }], guard := none }) rfl (by kernel_rfl) (fun K hK => ?_)
                  (have c0 := World.rowIs.cell HK6.out (i := i) (by omega); have f0 := World.rowIs.frozen HK6.out i; go_simp)
                  refine hK.out _ _ ?_
                  clear hK K
                  try simp only [Act.put, List.setIfInBounds_toArray, List.set_cons_zero, List.set_cons_succ]
                  refine wpL_nil ?_
                  refine NoPanic.normal ?_
                  go_wp2_with fail
                  go_roundw
                  case rel => exact ⟨i + 1, by go_num, by rw [← HPN.out], by omega, by omega, Lib.hid (by
                    rw [wI_step _ i h8]
                    refine World.rowIs.congr (World.rowIs.set HK6.out i _) fun j hj => ?_
                    rw [kv_word _ _ i _ (by omega)]
                    by_cases e : j = i
                    · rw [if_pos e, if_pos e]; exact congrArg (Value.int .u32) (by rw [w_xor, HV.out])
                    · rw [if_neg e, if_neg e]), Lib.hid (by first | exact HB6.out.setCell (p := ⟨q, i, none⟩) (Nat.le_refl _) _ | exact (HB6.out.setCell (p := ⟨q, i, none⟩) (Nat.le_refl _) _).drew)⟩
                  case measure => simp [intOf]; omega
                · as_aux_lemma =>
                  have hA0 : ((i : Int) % 8 == 0) = false := by rw [beq_eq_false_iff_ne]; omega
                  have hA4 : ((i : Int) % 8 == 4) = false := by rw [beq_eq_false_iff_ne]; omega
                  have HV : Hid (wI s.data.toList i (i - 8) ^^^ wI s.data.toList i (i - 1) = nextW (wI s.data.toList i) (pwI i) i) := Lib.hid (by unfold nextW tW; rw [if_neg hA, if_neg hB])
                  have HPN : Hid (pwI i = pwI (i + 1)) := Lib.hid (by rw [HPS.out, if_neg hA])
                  have HK6 := HK
                  have HB6 := HB
                  clear HK HB HBX
                  go_upto_region 26 with fail
                  refine wp_region_lin (S := (fun w' => w'.cell? ⟨q, i - 8, none⟩ = some (wv (wI s.data.toList i (i - 8))))) [(0, true), (1, true), (2, true), (3, true), (4, true), (5, true), (6, true), (7, true), (8, true), (9, true), (10, true), (11, true), (12, true), (13, true), (14, false)] (by kernel_rfl) (by kernel_rfl) rfl (by kernel_rfl) ?_ (fun hHeld => ?_)
                  · (try dsimp only); exact c8
                  (refine wpL_calm (o := { dst := some 89, op := Go.Op.move (Go.Operand.tmp 4), type := 26, pos := "aes.go:60", after := #[], guard := none }) (v := ?_) rfl (Or.inl ⟨by rfl, ?_⟩) ?_; rotate_left; (focus (intro w hSw; (try dsimp only at hSw); go_simp; (try (with_reducible rfl)); done)); try simp only [Act.put, List.setIfInBounds_toArray, List.set_cons_zero, List.set_cons_succ])
                  (refine wpL_calm (o := { dst := some 90, op := Go.Op.move (Go.Operand.tmp 9), type := 3, pos := "aes.go:60", after := #[], guard := none }) (v := ?_) rfl (Or.inl ⟨by rfl, ?_⟩) ?_; rotate_left; (focus (intro w hSw; (try dsimp only at hSw); go_simp; (try (with_reducible rfl)); done)); try simp only [Act.put, List.setIfInBounds_toArray, List.set_cons_zero, List.set_cons_succ])
                  (refine wpL_calm (o := { dst := some 91, op := Go.Op.move (Go.Operand.tmp 4), type := 26, pos := "aes.go:60", after := #[], guard := none }) (v := ?_) rfl (Or.inl ⟨by rfl, ?_⟩) ?_; rotate_left; (focus (intro w hSw; (try dsimp only at hSw); go_simp; (try (with_reducible rfl)); done)); try simp only [Act.put, List.setIfInBounds_toArray, List.set_cons_zero, List.set_cons_succ])
                  (refine wpL_calm (o := { dst := some 92, op := Go.Op.move (Go.Operand.tmp 9), type := 3, pos := "aes.go:60", after := #[], guard := none }) (v := ?_) rfl (Or.inl ⟨by rfl, ?_⟩) ?_; rotate_left; (focus (intro w hSw; (try dsimp only at hSw); go_simp; (try (with_reducible rfl)); done)); try simp only [Act.put, List.setIfInBounds_toArray, List.set_cons_zero, List.set_cons_succ])
                  (refine wpL_calm (o := { dst := some 93, op := Go.Op.binOp Go.BinOp.sub 3 (Go.Operand.tmp 92) (Go.Operand.const (Go.Value.int Go.IntKind.i64 8)) 3, type := 3, pos := "aes.go:60", after := #[{ on := 3, ground := Go.Ground.data }], guard := none }) (v := ?_) rfl (Or.inl ⟨by rfl, ?_⟩) ?_; rotate_left; (focus (intro w hSw; (try dsimp only at hSw); go_simp; (try (with_reducible rfl)); done)); try simp only [Act.put, List.setIfInBounds_toArray, List.set_cons_zero, List.set_cons_succ])
                  (refine wpL_calm (o := { dst := some 94, op := Go.Op.nilCheck (Go.Operand.tmp 91), type := 0, pos := "aes.go:60", after := #[{ on := 2, ground := Go.Ground.data }], guard := none }) (v := ?_) rfl (Or.inl ⟨by rfl, ?_⟩) ?_; rotate_left; (focus (intro w hSw; (try dsimp only at hSw); go_simp; (try (with_reducible rfl)); done)); try simp only [Act.put, List.setIfInBounds_toArray, List.set_cons_zero, List.set_cons_succ])
                  (refine wpL_calm (o := { dst := some 95, op := Go.Op.fieldAddr 74 (Go.Operand.tmp 94) 0, type := 0, pos := "aes.go:60", after := #[{ on := 5, ground := Go.Ground.data }], guard := none }) (v := ?_) rfl (Or.inl ⟨by rfl, ?_⟩) ?_; rotate_left; (focus (intro w hSw; (try dsimp only at hSw); go_simp; (try (with_reducible rfl)); done)); try simp only [Act.put, List.setIfInBounds_toArray, List.set_cons_zero, List.set_cons_succ])
                  (refine wpL_calm (o := { dst := some 96, op := Go.Op.indexAddr 71 (Go.Operand.tmp 95) (Go.Operand.tmp 93), type := 0, pos := "aes.go:60", after := #[{ on := 6, ground := Go.Ground.data }, { on := 4, ground := Go.Ground.data }], guard := none }) (v := ?_) rfl (Or.inl ⟨by rfl, ?_⟩) ?_; rotate_left; (focus (intro w hSw; (try dsimp only at hSw); go_simp; (try (with_reducible rfl)); done)); try simp only [Act.put, List.setIfInBounds_toArray, List.set_cons_zero, List.set_cons_succ])
                  (refine wpL_calm (o := { dst := some 97, op := Go.Op.load 30 (Go.Operand.tmp 96), type := 30, pos := "aes.go:60", after := #[{ on := 7, ground := Go.Ground.data }], guard := none }) (v := ?_) rfl (Or.inl ⟨by rfl, ?_⟩) ?_; rotate_left; (focus (intro w hSw; (try dsimp only at hSw); go_simp; (try (with_reducible rfl)); done)); try simp only [Act.put, List.setIfInBounds_toArray, List.set_cons_zero, List.set_cons_succ])
                  (refine wpL_calm (o := { dst := some 98, op := Go.Op.move (Go.Operand.tmp 10), type := 30, pos := "aes.go:60", after := #[], guard := none }) (v := ?_) rfl (Or.inl ⟨by rfl, ?_⟩) ?_; rotate_left; (focus (intro w hSw; (try dsimp only at hSw); go_simp; (try (with_reducible rfl)); done)); try simp only [Act.put, List.setIfInBounds_toArray, List.set_cons_zero, List.set_cons_succ])
                  (refine wpL_calm (o := { dst := some 99, op := Go.Op.binOp Go.BinOp.xor 30 (Go.Operand.tmp 97) (Go.Operand.tmp 98) 30, type := 30, pos := "aes.go:60", after := #[{ on := 8, ground := Go.Ground.data }, { on := 9, ground := Go.Ground.data }], guard := none }) (v := ?_) rfl (Or.inl ⟨by rfl, ?_⟩) ?_; rotate_left; (focus (intro w hSw; (try dsimp only at hSw); go_simp; (try (with_reducible rfl)); done)); try simp only [Act.put, List.setIfInBounds_toArray, List.set_cons_zero, List.set_cons_succ])
                  (refine wpL_calm (o := { dst := some 100, op := Go.Op.nilCheck (Go.Operand.tmp 89), type := 0, pos := "aes.go:60", after := #[{ on := 0, ground := Go.Ground.data }], guard := none }) (v := ?_) rfl (Or.inl ⟨by rfl, ?_⟩) ?_; rotate_left; (focus (intro w hSw; (try dsimp only at hSw); go_simp; (try (with_reducible rfl)); done)); try simp only [Act.put, List.setIfInBounds_toArray, List.set_cons_zero, List.set_cons_succ])
                  (refine wpL_calm (o := { dst := some 101, op := Go.Op.fieldAddr 74 (Go.Operand.tmp 100) 0, type := 0, pos := "aes.go:60", after := #[{ on := 11, ground := Go.Ground.data }], guard := none }) (v := ?_) rfl (Or.inl ⟨by rfl, ?_⟩) ?_; rotate_left; (focus (intro w hSw; (try dsimp only at hSw); go_simp; (try (with_reducible rfl)); done)); try simp only [Act.put, List.setIfInBounds_toArray, List.set_cons_zero, List.set_cons_succ])
                  (refine wpL_calm (o := { dst := some 102, op := Go.Op.indexAddr 71 (Go.Operand.tmp 101) (Go.Operand.tmp 90), type := 0, pos := "aes.go:60", after := #[{ on := 12, ground := Go.Ground.data }, { on := 1, ground := Go.Ground.data }, { on := 0, ground := Go.Ground.phase }, { on := 1, ground := Go.Ground.phase }, { on := 2, ground := Go.Ground.phase }, { on := 3, ground := Go.Ground.phase }, { on := 4, ground := Go.Ground.phase }, { on := 5, ground := Go.Ground.phase }, { on := 6, ground := Go.Ground.phase }, { on := 7, ground := Go.Ground.phase }, { on := 8, ground := Go.Ground.phase }, { on := 9, ground := Go.Ground.phase }, { on := 10, ground := Go.Ground.phase }], guard := none }) (v := ?_) rfl (Or.inl ⟨by rfl, ?_⟩) ?_; rotate_left; (focus (intro w hSw; (try dsimp only at hSw); go_simp; (try (with_reducible rfl)); done)); try simp only [Act.put, List.setIfInBounds_toArray, List.set_cons_zero, List.set_cons_succ])
                  refine wpL_loud0 (o := { dst := none, op := Go.Op.store 30 (Go.Operand.tmp 102) (Go.Operand.tmp 99), type := 0, pos := "aes.go:60", after := #[{ on := 13, ground := Go.Ground.data }, { on := 10, ground := Go.Ground.data }, { on := 0, ground := Go.Ground.phase }, { on := 1, ground := Go.Ground.phase }, { on := 2, ground := Go.Ground.phase }, { on := 3, ground := Go.Ground.phase }, { on := 4, ground := Go.Ground.phase }, { on := 5, ground := Go.Ground.phase }, { on := 6, ground := Go.Ground.phase }, { on := 7, ground := Go.Ground.phase }, { on := 8, ground := Go.Ground.phase }, { on := 9, ground := Go.Ground.phase }, { on := 10, ground := Go.Ground.phase }], guard := none }) rfl (by kernel_rfl) (fun K hK => ?_)
                  (have c0 := World.rowIs.cell HK6.out (i := i) (by omega); have f0 := World.rowIs.frozen HK6.out i; go_simp)
                  refine hK.out _ _ ?_
                  clear hK K
                  try simp only [Act.put, List.setIfInBounds_toArray, List.set_cons_zero, List.set_cons_succ]
                  refine wpL_nil ?_
                  refine NoPanic.normal ?_
                  go_wp2_with fail
                  go_roundw
                  case rel => exact ⟨i + 1, by go_num, by rw [← HPN.out], by omega, by omega, Lib.hid (by
                    rw [wI_step _ i h8]
                    refine World.rowIs.congr (World.rowIs.set HK6.out i _) fun j hj => ?_
                    rw [kv_word _ _ i _ (by omega)]
                    by_cases e : j = i
                    · rw [if_pos e, if_pos e]; exact congrArg (Value.int .u32) (by rw [w_xor, HV.out])
                    · rw [if_neg e, if_neg e]), Lib.hid (by first | exact HB6.out.setCell (p := ⟨q, i, none⟩) (Nat.le_refl _) _ | exact (HB6.out.setCell (p := ⟨q, i, none⟩) (Nat.le_refl _) _).drew)⟩
                  case measure => simp [intOf]; omega
            · as_aux_lemma =>
              obtain rfl : i = 60 := by omega
              rw [show ((60 : Nat) : Int) = 60 from rfl]
              have BW : Below q w wr := b2.trans HB.out
              go_wp2_with fail
              go_ret2
              exact ⟨by (rw [HQ.out]; try rfl), by rw [HQ.out]; exact HK.out, by rw [HQ.out]; exact BW⟩
end Go.Proofs.Ytbbanhjcchnhpaa
