/- Contracts (cellaret): reg.lay, reg.Put. -/
import Derived.Test.YtghnhflomeifmaaReB
namespace Go.Proofs.Ytghnhflomeifmaa
open Go.RowKit Go.Deep
set_option linter.unusedVariables false
set_option linter.unusedSimpArgs false
/-- Bytes in memory made a string. -/
theorem conv_range {w : World} {g o cap : Nat} {l : List UInt8} (h : w.rangeAt g o (l.map fun b => .int .u8 (b.toNat : Int))) :
    (convert 41 9 (.slice (some ⟨g, o, none⟩) l.length cap)).run Try.prog w = .ok (.string ⟨l.toArray⟩) w :=
  run_convert_bytes_back (P := Try.prog) w 41 9 5 ⟨g, o, none⟩ cap l Try.underlying41 Try.underlying5 Try.underlying9 (fun j hj => by
    rw [Addr.add_mid]
    exact h j _ (by simp [hj]))
theorem range_below {w w' : World} {g o : Nat} {cs : List Value} (h : w.rangeAt g o cs) (hb : Below w.heap.size w w') (hg : g < w.heap.size) : w'.rangeAt g o cs := fun j v hv => (hb.cell (p := ⟨g, o + j, none⟩) hg).trans (h j v hv)
theorem conv_keep {w w' : World} {g o : Nat} {l : List UInt8} (h : w.rangeAt g o (l.map fun b => .int .u8 (b.toNat : Int))) (hg : g < w.heap.size) (n : Nat) (hn : l.length = n) (hb : Below w.heap.size w w') :
    (convert 41 9 (.slice (some ⟨g, o, none⟩) n n)).run Try.prog w' = .ok (.string ⟨l.toArray⟩) w' := by
  subst hn
  exact conv_range (range_below h hb hg)
def attI (R : Rg) : Int := if R.at_ = true then 1 else 0
def restI (R : Rg) : List Int := [R.a0, R.u0, R.a1, R.u1, R.di, R.mo, attI R, 103]
def s0 (R : Rg) : ByteArray := ⟨(digL R.d0).toArray⟩
def s1 (R : Rg) : ByteArray := ⟨(digL R.d1).toArray⟩
def zz12 : ByteArray := ⟨(List.replicate 12 (0 : UInt8)).toArray⟩
/-- A register's bytes. -/
def layS (R : Rg) : ByteArray := s0 R ++ s1 R ++ ⟨(putL R.ep 4).toArray⟩ ++ ⟨(putL R.iv 8).toArray⟩ ++ ⟨(rowL 1 (restI R)).toArray⟩ ++ zz12
theorem make12 (w : World) : (Instr.makeSlice 41 (.int .i64 12) (.int .i64 12)).run Try.prog w = .ok (.slice (some ⟨w.heap.size, 0, none⟩) 12 12) (w.alloc (.cells (madeCells #[.int .u8 0] 12) 5)) :=
  run_make_row' (P := Try.prog) 41 5 (.int .u8 0) 1 Try.underlying41 Try.info_u8 rfl .i64 .i64 12 (by omega) (by omega) (w := w)
theorem conv12 (w : World) : (convert 41 9 (.slice (some ⟨w.heap.size, 0, none⟩) 12 12)).run Try.prog (w.alloc (.cells (madeCells #[.int .u8 0] 12) 5)) = .ok (.string zz12) (w.alloc (.cells (madeCells #[.int .u8 0] 12) 5)) :=
  conv_row (P := Try.prog) (cap := 12) (W := 12) (dst := 9) (f := fun _ => 0) Try.underlying41 Try.underlying5 Try.underlying9 (World.rowIs_made w (.int .u8 0) 12 5) (Nat.le_refl _)
theorem addr_self (a : Addr) : a.add 0 = a := by simp [Addr.add]
theorem ints8 (w : World) (R : Rg) : ∃ w3, Hid (w.alloc (.cells #[.int .i64 R.a0, .int .i64 R.u0, .int .i64 R.a1, .int .i64 R.u1, .int .i64 R.di, .int .i64 R.mo, .int .i64 (attI R), .int .i64 103] 3) = w3) ∧ IntsAt w3 (some ⟨w.heap.size, 0, none⟩) 8 (restI R) ∧ Below w.heap.size w w3 :=
  ⟨_, Lib.hid rfl, fun _ => ⟨w.heap.size, 0, rfl, by simp, fun i hi => by
    rcases i8 hi with rfl | rfl | rfl | rfl | rfl | rfl | rfl | rfl <;> simp [restI, go_sem]⟩, (Below.refl _ _).alloc (Nat.le_refl _) _⟩
set_option maxRecDepth 100000 in
set_option maxHeartbeats 4000000 in
theorem lay_reg (R : Rg) (w : World) : Calls Try.prog 13 #[.agg (rcells R)] w fun e w' => e = .returned (.string (layS R)) ∧ Below w.heap.size w w' := by
  obtain ⟨w0, HE, HR0, B0⟩ := box_reg w R
  obtain ⟨c64, c65, c66, c67, c68, c69, c70, c71, c72⟩ := HR0.cells
  have l0 := HR0.lt
  have HH := Lib.hid HR0
  have HL : Hid (∀ x, s0 R ++ s1 R ++ ⟨(putL R.ep 4).toArray⟩ ++ ⟨(putL R.iv 8).toArray⟩ ++ ⟨(rowL 1 (restI R)).toArray⟩ ++ zz12 = x → layS R = x) := Lib.hid (by rintro x rfl; rfl)
  have k0 : (s0 R).size ≤ 32 := by simp [s0, digL, ByteArray.size]
  have k1 : (s1 R).size ≤ 32 := by simp [s1, digL, ByteArray.size]
  have k2 : (⟨(putL R.ep 4).toArray⟩ : ByteArray).size ≤ 8 := putL_length R.ep 4
  have k3 : (⟨(putL R.iv 8).toArray⟩ : ByteArray).size ≤ 8 := putL_length R.iv 8
  have k4 : (⟨(rowL 1 (restI R)).toArray⟩ : ByteArray).size ≤ 64 := by
    show (rowL 1 (restI R)).length ≤ 64
    unfold rowL
    split
    · have := rowB_length 1 (restI R); simpa [restI] using this
    · simp
  have k5 : zz12.size ≤ 12 := by decide
  clear HR0
  go_enter Try.func13, Try.ntmps13
  go_upto_region 2 with fail
  rw [HE.out]
  clear HE
  go_upto_if 11 with fail
  go_cut [3] from 11 (fun s3 wx => s3 = .int .i64 (attI R) ∧ w0 = wx)
  case first =>
    have HA : Hid (∀ b, R.at_ = b → attI R = if b = true then 1 else 0) := Lib.hid (by rintro b rfl; rfl)
    cases hb : R.at_
    · rw [hb] at c72
      have E := Lib.hid (HA.out _ hb)
      clear hb HA
      go_wp2
      go_meet
      exact ⟨by rw [E.out]; rfl, rfl⟩
    · rw [hb] at c72
      have E := Lib.hid (HA.out _ hb)
      clear hb HA
      go_wp2
      go_meet
      exact ⟨by rw [E.out]; rfl, rfl⟩
  case rest =>
  obtain ⟨rfl, rfl⟩ := hcut
  go_wp2_with fail
  refine (put_any _ _ _).mono ?_
  rintro e w1 ⟨rfl, b1⟩
  have d65 := (b1.cell (p := ⟨w.heap.size, 65, none⟩) l0).trans c65
  go_wp2_with fail
  refine (put_any _ _ _).mono ?_
  rintro e w2 ⟨rfl, b2⟩
  have b12 := b1.trans (b2.mono b1.size)
  have HR2 := HH.out.below b12 l0
  have B2 := B0.trans (b12.mono B0.size)
  clear c64 c65 c66 c67 c68 c69 c70 c71 c72 d65 b1 b2 b12 HH
  obtain ⟨c64, c65, c66, c67, c68, c69, c70, c71, c72⟩ := HR2.cells
  have HR2 := Lib.hid HR2
  clear c64 c65 c72
  go_wp2_with fail
  obtain ⟨w3, HW3, hI, b3⟩ := ints8 w2 R
  rw [HW3.out]
  clear HW3
  refine (row_ok 1 _ 8 8 (restI R) _ (by omega) (by omega) (by omega) (Lib.hid hI) (Lib.hid rfl)).mono ?_
  rintro e w4 ⟨rfl, b4⟩
  have b34 := b3.trans (b4.mono b3.size)
  have HR4 := HR2.out.below b34 HR2.out.lt
  have B4 := B2.trans (b34.mono B2.size)
  have r0 := HR4.r0
  have r1 := HR4.r1
  clear c66 c67 c68 c69 c70 c71 hI b3 b4 b34 HR2
  have Q0 : Hid (∀ w', Below w4.heap.size w4 w' → (convert 41 9 (.slice (some ⟨w.heap.size, 0, none⟩) 32 32)).run Try.prog w' = .ok (.string (s0 R)) w') := Lib.hid (fun w' hb => conv_keep r0 HR4.lt 32 (by simp [digL]) hb)
  have Q1 : Hid (∀ w', Below w4.heap.size w4 w' → (convert 41 9 (.slice (some ⟨w.heap.size, 32, none⟩) 32 32)).run Try.prog w' = .ok (.string (s1 R)) w') := Lib.hid (fun w' hb => conv_keep r1 HR4.lt 32 (by simp [digL]) hb)
  have hmk := make12
  have hcv := conv12
  generalize (⟨(putL R.ep 4).toArray⟩ : ByteArray) = t2 at *
  generalize (⟨(putL R.iv 8).toArray⟩ : ByteArray) = t3 at *
  generalize (⟨(rowL 1 (restI R)).toArray⟩ : ByteArray) = t4 at *
  generalize zz12 = t5 at *
  generalize s0 R = t0 at *
  generalize s1 R = t1 at *
  have a1 : (9223372036854775807 < t0.size + t1.size) = False := by simp; omega
  have a2 : (9223372036854775807 < t0.size + t1.size + t2.size) = False := by simp; omega
  have a3 : (9223372036854775807 < t0.size + t1.size + t2.size + t3.size) = False := by simp; omega
  have a4 : (9223372036854775807 < t0.size + t1.size + t2.size + t3.size + t4.size) = False := by simp; omega
  have a5 : (9223372036854775807 < t0.size + t1.size + t2.size + t3.size + t4.size + t5.size) = False := by simp; omega
  go_wp2
  refine wp_region_lin (S := (fun w' => (convert 41 9 (.slice (some ⟨w.heap.size, 0, none⟩) 32 32)).run Try.prog w' = .ok (.string t0) w' ∧ (convert 41 9 (.slice (some ⟨w.heap.size, 32, none⟩) 32 32)).run Try.prog w' = .ok (.string t1) w')) [(0, true), (1, true), (2, true), (3, true), (4, true), (5, true), (6, true), (7, true), (8, true), (9, true), (10, true), (11, true), (12, true), (13, true), (14, true), (15, false), (16, false), (17, true), (18, true)] (by kernel_rfl) (by kernel_rfl) rfl (by kernel_rfl) ?_ (fun hHeld => ?_)
  · (try dsimp only); exact ⟨Q0.out _ (Below.refl _ _).drew, Q1.out _ (Below.refl _ _).drew⟩
  have hb5 : Below w4.heap.size w4 w4.drew := (Below.refl _ _).drew
  have B5 : Below w.heap.size w w4.drew := B4.drew
  generalize World.drew w4 = w5 at hHeld hb5 B5 ⊢
  (refine wpL_calm (o := { dst := some 46, op := Go.Op.fieldAddr 27 (Go.Operand.tmp 1) 0, type := 0, pos := "reg.go:50", after := #[], guard := none }) (v := ?_) rfl (Or.inl ⟨by rfl, ?_⟩) ?_; rotate_left; (focus (intro w hSw; (try dsimp only at hSw); go_simp; (try (with_reducible rfl)); done)); try simp only [Act.put, List.setIfInBounds_toArray, List.set_cons_zero, List.set_cons_succ])
  (refine wpL_calm (o := { dst := some 47, op := Go.Op.indexAddr 24 (Go.Operand.tmp 46) (Go.Operand.const (Go.Value.int Go.IntKind.i64 0)), type := 0, pos := "reg.go:50", after := #[{ on := 0, ground := Go.Ground.data }], guard := none }) (v := ?_) rfl (Or.inl ⟨by rfl, ?_⟩) ?_; rotate_left; (focus (intro w hSw; (try dsimp only at hSw); go_simp; (try (with_reducible rfl)); done)); try simp only [Act.put, List.setIfInBounds_toArray, List.set_cons_zero, List.set_cons_succ])
  (refine wpL_calm (o := { dst := some 48, op := Go.Op.slice 23 (Go.Operand.tmp 47) none none none, type := 41, pos := "reg.go:50", after := #[{ on := 1, ground := Go.Ground.data }], guard := none }) (v := ?_) rfl (Or.inl ⟨by rfl, ?_⟩) ?_; rotate_left; (focus (intro w hSw; (try dsimp only at hSw); go_simp; (try (with_reducible rfl)); done)); try simp only [Act.put, List.setIfInBounds_toArray, List.set_cons_zero, List.set_cons_succ])
  (refine wpL_calm (o := { dst := some 49, op := Go.Op.convert 41 9 (Go.Operand.tmp 48), type := 9, pos := "reg.go:50", after := #[{ on := 2, ground := Go.Ground.data }], guard := none }) (v := ?_) rfl (Or.inl ⟨by rfl, ?_⟩) ?_; rotate_left; (focus (intro w hSw; (try dsimp only at hSw); go_simp; (try (with_reducible rfl)); done)); try simp only [Act.put, List.setIfInBounds_toArray, List.set_cons_zero, List.set_cons_succ])
  (refine wpL_calm (o := { dst := some 50, op := Go.Op.fieldAddr 27 (Go.Operand.tmp 1) 0, type := 0, pos := "reg.go:50", after := #[], guard := none }) (v := ?_) rfl (Or.inl ⟨by rfl, ?_⟩) ?_; rotate_left; (focus (intro w hSw; (try dsimp only at hSw); go_simp; (try (with_reducible rfl)); done)); try simp only [Act.put, List.setIfInBounds_toArray, List.set_cons_zero, List.set_cons_succ])
  (refine wpL_calm (o := { dst := some 51, op := Go.Op.indexAddr 24 (Go.Operand.tmp 50) (Go.Operand.const (Go.Value.int Go.IntKind.i64 1)), type := 0, pos := "reg.go:50", after := #[{ on := 4, ground := Go.Ground.data }], guard := none }) (v := ?_) rfl (Or.inl ⟨by rfl, ?_⟩) ?_; rotate_left; (focus (intro w hSw; (try dsimp only at hSw); go_simp; (try (with_reducible rfl)); done)); try simp only [Act.put, List.setIfInBounds_toArray, List.set_cons_zero, List.set_cons_succ])
  (refine wpL_calm (o := { dst := some 52, op := Go.Op.slice 23 (Go.Operand.tmp 51) none none none, type := 41, pos := "reg.go:50", after := #[{ on := 5, ground := Go.Ground.data }], guard := none }) (v := ?_) rfl (Or.inl ⟨by rfl, ?_⟩) ?_; rotate_left; (focus (intro w hSw; (try dsimp only at hSw); go_simp; (try (with_reducible rfl)); done)); try simp only [Act.put, List.setIfInBounds_toArray, List.set_cons_zero, List.set_cons_succ])
  (refine wpL_calm (o := { dst := some 53, op := Go.Op.convert 41 9 (Go.Operand.tmp 52), type := 9, pos := "reg.go:50", after := #[{ on := 6, ground := Go.Ground.data }], guard := none }) (v := ?_) rfl (Or.inl ⟨by rfl, ?_⟩) ?_; rotate_left; (focus (intro w hSw; (try dsimp only at hSw); go_simp; (try (with_reducible rfl)); done)); try simp only [Act.put, List.setIfInBounds_toArray, List.set_cons_zero, List.set_cons_succ])
  (refine wpL_calm (o := { dst := some 54, op := Go.Op.binOp Go.BinOp.add 9 (Go.Operand.tmp 49) (Go.Operand.tmp 53) 9, type := 9, pos := "reg.go:50", after := #[{ on := 3, ground := Go.Ground.data }, { on := 7, ground := Go.Ground.data }], guard := none }) (v := ?_) rfl (Or.inl ⟨by rfl, ?_⟩) ?_; rotate_left; (focus (intro w hSw; (try dsimp only at hSw); go_simp; (try (with_reducible rfl)); done)); try simp only [Act.put, List.setIfInBounds_toArray, List.set_cons_zero, List.set_cons_succ])
  (refine wpL_calm (o := { dst := some 55, op := Go.Op.move (Go.Operand.tmp 4), type := 9, pos := "reg.go:50", after := #[], guard := none }) (v := ?_) rfl (Or.inl ⟨by rfl, ?_⟩) ?_; rotate_left; (focus (intro w hSw; (try dsimp only at hSw); go_simp; (try (with_reducible rfl)); done)); try simp only [Act.put, List.setIfInBounds_toArray, List.set_cons_zero, List.set_cons_succ])
  (refine wpL_calm (o := { dst := some 56, op := Go.Op.binOp Go.BinOp.add 9 (Go.Operand.tmp 54) (Go.Operand.tmp 55) 9, type := 9, pos := "reg.go:50", after := #[{ on := 8, ground := Go.Ground.data }, { on := 9, ground := Go.Ground.data }], guard := none }) (v := ?_) rfl (Or.inl ⟨by rfl, ?_⟩) ?_; rotate_left; (focus (intro w hSw; (try dsimp only at hSw); go_simp; (try (with_reducible rfl)); done)); try simp only [Act.put, List.setIfInBounds_toArray, List.set_cons_zero, List.set_cons_succ])
  (refine wpL_calm (o := { dst := some 57, op := Go.Op.move (Go.Operand.tmp 6), type := 9, pos := "reg.go:50", after := #[], guard := none }) (v := ?_) rfl (Or.inl ⟨by rfl, ?_⟩) ?_; rotate_left; (focus (intro w hSw; (try dsimp only at hSw); go_simp; (try (with_reducible rfl)); done)); try simp only [Act.put, List.setIfInBounds_toArray, List.set_cons_zero, List.set_cons_succ])
  (refine wpL_calm (o := { dst := some 58, op := Go.Op.binOp Go.BinOp.add 9 (Go.Operand.tmp 56) (Go.Operand.tmp 57) 9, type := 9, pos := "reg.go:50", after := #[{ on := 10, ground := Go.Ground.data }, { on := 11, ground := Go.Ground.data }], guard := none }) (v := ?_) rfl (Or.inl ⟨by rfl, ?_⟩) ?_; rotate_left; (focus (intro w hSw; (try dsimp only at hSw); go_simp; (try (with_reducible rfl)); done)); try simp only [Act.put, List.setIfInBounds_toArray, List.set_cons_zero, List.set_cons_succ])
  (refine wpL_calm (o := { dst := some 59, op := Go.Op.move (Go.Operand.tmp 8), type := 9, pos := "reg.go:50", after := #[], guard := none }) (v := ?_) rfl (Or.inl ⟨by rfl, ?_⟩) ?_; rotate_left; (focus (intro w hSw; (try dsimp only at hSw); go_simp; (try (with_reducible rfl)); done)); try simp only [Act.put, List.setIfInBounds_toArray, List.set_cons_zero, List.set_cons_succ])
  (refine wpL_calm (o := { dst := some 60, op := Go.Op.binOp Go.BinOp.add 9 (Go.Operand.tmp 58) (Go.Operand.tmp 59) 9, type := 9, pos := "reg.go:50", after := #[{ on := 12, ground := Go.Ground.data }, { on := 13, ground := Go.Ground.data }], guard := none }) (v := ?_) rfl (Or.inl ⟨by rfl, ?_⟩) ?_; rotate_left; (focus (intro w hSw; (try dsimp only at hSw); go_simp; (try (with_reducible rfl)); done)); try simp only [Act.put, List.setIfInBounds_toArray, List.set_cons_zero, List.set_cons_succ])
  refine wpL_loud1 (o := { dst := some 61, op := Go.Op.makeSlice 41 (Go.Operand.const (Go.Value.int Go.IntKind.i64 12)) (Go.Operand.const (Go.Value.int Go.IntKind.i64 12)), type := 41, pos := "reg.go:50", after := #[], guard := none }) rfl (fun K hK => ?_)
  go_simp
  refine hK.out _ _ ?_ (fun hHeld => ?_)
  · (try dsimp only); exact ⟨Q0.out _ (hb5.alloc hb5.size _), Q1.out _ (hb5.alloc hb5.size _)⟩
  clear hK K
  try simp only [Act.put, List.setIfInBounds_toArray, List.set_cons_zero, List.set_cons_succ]
  refine wpL_loud1 (o := { dst := some 62, op := Go.Op.convert 41 9 (Go.Operand.tmp 61), type := 9, pos := "reg.go:50", after := #[{ on := 15, ground := Go.Ground.data }], guard := none }) rfl (fun K hK => ?_)
  go_simp
  refine hK.out _ _ ?_ (fun hHeld => ?_)
  · (try dsimp only); trivial
  clear hK K
  try simp only [Act.put, List.setIfInBounds_toArray, List.set_cons_zero, List.set_cons_succ]
  (refine wpL_calm (o := { dst := some 63, op := Go.Op.binOp Go.BinOp.add 9 (Go.Operand.tmp 60) (Go.Operand.tmp 62) 9, type := 9, pos := "reg.go:50", after := #[{ on := 14, ground := Go.Ground.data }, { on := 16, ground := Go.Ground.data }], guard := none }) (v := ?_) rfl (Or.inl ⟨by rfl, ?_⟩) ?_; rotate_left; (focus (intro w hSw; (try dsimp only at hSw); go_simp; (try (with_reducible rfl)); done)); try simp only [Act.put, List.setIfInBounds_toArray, List.set_cons_zero, List.set_cons_succ])
  (refine wpL_calm (o := { dst := some 2, op := Go.Op.assign (Go.Operand.tmp 63), type := 9, pos := "reg.go:50", after := #[{ on := 17, ground := Go.Ground.data }, { on := 0, ground := Go.Ground.phase }, { on := 1, ground := Go.Ground.phase }, { on := 2, ground := Go.Ground.phase }, { on := 3, ground := Go.Ground.phase }, { on := 4, ground := Go.Ground.phase }, { on := 5, ground := Go.Ground.phase }, { on := 6, ground := Go.Ground.phase }, { on := 7, ground := Go.Ground.phase }, { on := 8, ground := Go.Ground.phase }, { on := 9, ground := Go.Ground.phase }, { on := 10, ground := Go.Ground.phase }, { on := 11, ground := Go.Ground.phase }, { on := 12, ground := Go.Ground.phase }, { on := 13, ground := Go.Ground.phase }, { on := 14, ground := Go.Ground.phase }, { on := 15, ground := Go.Ground.phase }, { on := 16, ground := Go.Ground.phase }, { on := 17, ground := Go.Ground.phase }], guard := none }) (v := ?_) rfl (Or.inl ⟨by rfl, ?_⟩) ?_; rotate_left; (focus (intro w hSw; (try dsimp only at hSw); go_simp; (try (with_reducible rfl)); done)); try simp only [Act.put, List.setIfInBounds_toArray, List.set_cons_zero, List.set_cons_succ])
  refine wpL_nil ?_
  refine NoPanic.normal ?_
  go_wp2
  go_ret
  exact ⟨by rw [HL.out _ rfl]; first | done | rfl, B5.alloc B5.size _⟩
end Go.Proofs.Ytghnhflomeifmaa
