/- The reference's constants (layer 3): times. -/
import Derived.Test.YtndhegdhkoileaaDoorShT
namespace Go.Proofs.YtndhegdhkoileaaDoor
open Go.RowKit Go.Deep
set_option linter.unusedVariables false
set_option linter.unusedSimpArgs false
theorem tmI_succ (a b : List Nat) (i : Nat) (L : List Nat) (k : Nat) : tmI a b i L (k + 1) = ((tmI a b i L k).1.set (i + k) ((lget (tmI a b i L k).1 (i + k) + lget a i * lget b k + (tmI a b i L k).2) % 65536), (lget (tmI a b i L k).1 (i + k) + lget a i * lget b k + (tmI a b i L k).2) / 65536) := rfl
theorem tmI_zero (a b : List Nat) (i : Nat) (L : List Nat) : tmI a b i L 0 = (L, 0) := rfl
theorem tmO_succ (a b : List Nat) (i : Nat) : tmO a b (i + 1) = (tmI a b i (tmO a b i) b.length).1.set (i + b.length) (lget (tmI a b i (tmO a b i) b.length).1 (i + b.length) + (tmI a b i (tmO a b i) b.length).2) := rfl
/-- A row of N numbers. -/
def RowN (w : World) (g N : Nat) (l : List Nat) : Prop := w.rowIs g 3 N (fun j => .int .i64 (lget l j : Int))
theorem RowN.set {w : World} {g N : Nat} {l : List Nat} (h : RowN w g N l) (k x : Nat) (hk : k < l.length) : RowN (w.setCell ⟨g, k, none⟩ (.int .i64 (x : Int))) g N (l.set k x) := by
  refine (World.rowIs.set h k _).congr fun j hj => ?_
  rw [lget_set l k j x hk]
  by_cases e : j = k
  · rw [if_pos e, if_pos e]
  · rw [if_neg e, if_neg e]
theorem wrap64 (x : Int) (h1 : 0 ≤ x) (h2 : x ≤ 9223372036854775807) : IntKind.i64.wrap x = x := by rw [IntKind.wrap_i64]; omega
theorem RowN.drew {w : World} {g N : Nat} {l : List Nat} (h : RowN w g N l) : RowN w.drew g N l := h
attribute [local irreducible] tmI tmO
set_option maxRecDepth 100000 in
set_option maxHeartbeats 2000000 in
theorem times_any (a b : List Nat) (ga gb ca cb : Nat) (w : World) (ha : Dg a) (hb : Dg b) (hla : a.length ≤ 100) (hlb : b.length ≤ 100) (hlb0 : 0 < b.length) (hra : NumRow w ga a) (hrb : NumRow w gb b) :
    Calls Tryd.prog 36 #[.slice (some ⟨ga, 0, none⟩) a.length ca, .slice (some ⟨gb, 0, none⟩) b.length cb] w fun e w' => e = .returned (.slice (some ⟨w.heap.size, 0, none⟩) (a.length + b.length) (a.length + b.length)) ∧ RowN w' w.heap.size (a.length + b.length) (timesL a b) ∧ Below w.heap.size w w' := by
  have hmk := run_make_row' (P := Tryd.prog) 33 3 (.int .i64 0) 8 Tryd.underlying33 info_i64' rfl .i64 .i64 (a.length + b.length) (by omega) (by omega)
  rw [show (((a.length + b.length : Nat)) : Int) = (a.length : Int) + (b.length : Int) from by push_cast; rfl] at hmk
  have HO := Lib.hid (tmO_ok a b ha hb)
  have HI := Lib.hid (fun i h k hk => tmI_ok a b i (tmO a b i) ha hb ((tmO_ok a b ha hb i (Nat.le_of_lt h)).1) (by rw [(tmO_ok a b ha hb i (Nat.le_of_lt h)).2.1]; omega) ((tmO_ok a b ha hb i (Nat.le_of_lt h)).2.2) k hk)
  have HDA := Lib.hid ha
  have HDB := Lib.hid hb
  have HRA := Lib.hid hra
  have HRB := Lib.hid hrb
  have HT := Lib.hid (show tmO a b a.length = timesL a b from rfl)
  have HS0 := Lib.hid (fun i => tmO_succ a b i)
  have hr0 : (w.alloc (.cells (madeCells #[.int .i64 0] (a.length + b.length)) 3)).rowIs w.heap.size 3 (a.length + b.length) (fun _ => .int .i64 0) := World.rowIs_made w _ _ _
  have hr1 : RowN (w.alloc (.cells (madeCells #[.int .i64 0] (a.length + b.length)) 3)) w.heap.size (a.length + b.length) (tmO a b 0) := hr0.congr (fun j hj => by
    have : lget (tmO a b 0) j = 0 := by
      with_unfolding_all (show lget (List.replicate (a.length + b.length) 0) j = 0)
      unfold lget
      rw [List.getElem?_replicate, if_pos hj]; rfl
    rw [this]; rfl)
  clear hr0 ha hb hra hrb
  generalize hA : a.length = A at *
  generalize hB : b.length = B at *
  go_enter Tryd.func36, Tryd.ntmps36
  go_upto_region 2 with fail
  have B1 : Below w.heap.size w (w.alloc (.cells (madeCells #[.int .i64 0] (A + B)) 3)) := (Below.refl _ _).alloc (Nat.le_refl _) _
  clear hmk
  generalize w.alloc (.cells (madeCells #[.int .i64 0] (A + B)) 3) = w1 at *
  generalize hgt : w.heap.size = gt at *
  have HGT := Lib.hid hgt
  clear hgt
  have hga : ga < gt := by rw [← HGT.out]; exact HRA.out.lt
  have hgb : gb < gt := by rw [← HGT.out]; exact HRB.out.lt
  go_wp2_with fail
  go_loopw [6] (fun x wi => ∃ i : Nat, x = .int .i64 i ∧ i ≤ A ∧ Hid (RowN wi gt (A + B) (tmO a b i)) ∧ Hid (Below gt w wi)) (fun x _ => A - (intOf x).toNat)
  case atStart => exact ⟨0, rfl, by omega, Lib.hid hr1, Lib.hid B1⟩
  clear hr1 B1
  case round =>
    obtain ⟨i, rfl, hi, HR, HB1⟩ := hrel
    by_cases hlt : i < A
    · have hli : (i : Int) < (A : Int) := by omega
      have HIO := Lib.hid (HI.out i hlt)
      have HL := Lib.hid (tmI_zero a b i (tmO a b i))
      have HTS := Lib.hid (HS0.out i)
      have HOL := Lib.hid ((HO.out i hi).2.1)
      generalize tmO a b i = L at *
      go_wp2_with fail
      go_loopw [7, 8] (fun c x wi => ∃ k : Nat, x = .int .i64 k ∧ k ≤ B ∧ c = .int .i64 ((tmI a b i L k).2 : Int) ∧ Hid (RowN wi gt (A + B) (tmI a b i L k).1) ∧ Hid (Below gt w wi)) (fun _ x _ => B - (intOf x).toNat)
      case atStart => exact ⟨0, rfl, by omega, by rw [HL.out]; rfl, Lib.hid (by rw [HL.out]; exact HR.out), HB1⟩
      clear HR HB1
      case round =>
        obtain ⟨k, rfl, hk, rfl, HR, HB1⟩ := hrel
        obtain ⟨q1, q2, q3, q4⟩ := HIO.out k hk
        have Hq1 := Lib.hid q1
        have Hq4 := Lib.hid q4
        clear q1 q4
        by_cases hlk : k < B
        · have hlj : (k : Int) < (B : Int) := by omega
          have HST := Lib.hid (tmI_succ a b i L k)
          have Hq2 := Lib.hid q2
          clear q2 Hq4
          generalize tmI a b i L k = r at *
          have d0 := World.rowIs.cell HR.out (i := i + k) (by omega)
          have f0 := World.rowIs.frozen HR.out (i + k)
          have da := (HB1.out.cell (p := ⟨ga, i, none⟩) hga).trans (HRA.out.cell (i := i) (by omega))
          have db := (HB1.out.cell (p := ⟨gb, k, none⟩) hgb).trans (HRB.out.cell (i := k) (by omega))
          have m1 := HDA.out i
          have m2 := HDB.out k
          have m3 := Hq1.out (i + k)
          have m4 := mul_le16 m1 m2
          generalize lget a i = x1 at *
          generalize lget b k = x2 at *
          generalize lget r.1 (i + k) = x3 at *
          generalize hc : r.2 = c at *
          have m5 : (x1 : Int) * (x2 : Int) = ((x1 * x2 : Nat) : Int) := by push_cast; rfl
          have m6 : (x1 : Int) * (x2 : Int) ≤ 4294836225 := by omega
          have m7 : 0 ≤ (x1 : Int) * (x2 : Int) := by omega
          have HE1 : Hid (((x3 : Int) + (x1 : Int) * (x2 : Int) + (c : Int)) % 65536 = (((x3 + x1 * x2 + c) % 65536 : Nat) : Int)) := Lib.hid (by rw [m5]; omega)
          have HE2 : Hid (((x3 : Int) + (x1 : Int) * (x2 : Int) + (c : Int)) / 65536 = (((x3 + x1 * x2 + c) / 65536 : Nat) : Int)) := Lib.hid (by rw [m5]; omega)
          have HM5 := Lib.hid m5
          clear m5
          have p1 : (i : Int) + (k : Int) < (A : Int) + (B : Int) := by omega
          have p0 : 0 ≤ (i : Int) + (k : Int) := by omega
          have p2 : ((i : Int) + (k : Int)).toNat = i + k := by omega
          have e1 := wrap64 ((i : Int) + (k : Int)) (by omega) (by omega)
          have e2 := wrap64 ((x1 : Int) * (x2 : Int)) (by omega) (by omega)
          have e3 := wrap64 ((x3 : Int) + (x1 : Int) * (x2 : Int)) (by omega) (by omega)
          have e4 := wrap64 ((x3 : Int) + (x1 : Int) * (x2 : Int) + (c : Int)) (by omega) (by omega)
          go_wp2_with fail
          refine wp_region_lin (S := (fun w' => w'.cell? ⟨gt, i + k, none⟩ = some (.int .i64 (x3 : Int)) ∧ w'.cell? ⟨ga, i, none⟩ = some (.int .i64 (x1 : Int)) ∧ w'.cell? ⟨gb, k, none⟩ = some (.int .i64 (x2 : Int)))) [(0, true), (1, true), (2, true), (3, true), (4, true), (5, true), (6, true), (7, true), (8, true), (9, true), (10, true), (11, true), (12, true), (13, true), (14, true), (15, true), (16, true), (17, true), (18, true)] (by kernel_rfl) (by kernel_rfl) rfl (by kernel_rfl) ?_ (fun hHeld => ?_)
          · (try dsimp only); exact ⟨d0, da, db⟩
          (refine wpL_calm (o := { dst := some 28, op := Go.Op.move (Go.Operand.tmp 5), type := 33, pos := "ref.go:78", after := #[], guard := none }) (v := ?_) rfl (Or.inl ⟨by rfl, ?_⟩) ?_; rotate_left; (focus (intro w hSw; (try dsimp only at hSw); go_simp; (try (with_reducible rfl)); done)); try simp only [Act.put, List.setIfInBounds_toArray, List.set_cons_zero, List.set_cons_succ])
          (refine wpL_calm (o := { dst := some 29, op := Go.Op.move (Go.Operand.tmp 6), type := 3, pos := "ref.go:78", after := #[], guard := none }) (v := ?_) rfl (Or.inl ⟨by rfl, ?_⟩) ?_; rotate_left; (focus (intro w hSw; (try dsimp only at hSw); go_simp; (try (with_reducible rfl)); done)); try simp only [Act.put, List.setIfInBounds_toArray, List.set_cons_zero, List.set_cons_succ])
          (refine wpL_calm (o := { dst := some 30, op := Go.Op.move (Go.Operand.tmp 8), type := 3, pos := "ref.go:78", after := #[], guard := none }) (v := ?_) rfl (Or.inl ⟨by rfl, ?_⟩) ?_; rotate_left; (focus (intro w hSw; (try dsimp only at hSw); go_simp; (try (with_reducible rfl)); done)); try simp only [Act.put, List.setIfInBounds_toArray, List.set_cons_zero, List.set_cons_succ])
          (refine wpL_calm (o := { dst := some 31, op := Go.Op.binOp Go.BinOp.add 3 (Go.Operand.tmp 29) (Go.Operand.tmp 30) 3, type := 3, pos := "ref.go:78", after := #[{ on := 1, ground := Go.Ground.data }, { on := 2, ground := Go.Ground.data }], guard := none }) (v := ?_) rfl (Or.inl ⟨by rfl, ?_⟩) ?_; rotate_left; (focus (intro w hSw; (try dsimp only at hSw); go_simp; (try (with_reducible rfl)); done)); try simp only [Act.put, List.setIfInBounds_toArray, List.set_cons_zero, List.set_cons_succ])
          (refine wpL_calm (o := { dst := some 32, op := Go.Op.indexAddr 33 (Go.Operand.tmp 28) (Go.Operand.tmp 31), type := 0, pos := "ref.go:78", after := #[{ on := 0, ground := Go.Ground.data }, { on := 3, ground := Go.Ground.data }], guard := none }) (v := ?_) rfl (Or.inl ⟨by rfl, ?_⟩) ?_; rotate_left; (focus (intro w hSw; (try dsimp only at hSw); go_simp; (try (with_reducible rfl)); done)); try simp only [Act.put, List.setIfInBounds_toArray, List.set_cons_zero, List.set_cons_succ])
          (refine wpL_calm (o := { dst := some 33, op := Go.Op.load 3 (Go.Operand.tmp 32), type := 3, pos := "ref.go:78", after := #[{ on := 4, ground := Go.Ground.data }], guard := none }) (v := ?_) rfl (Or.inl ⟨by rfl, ?_⟩) ?_; rotate_left; (focus (intro w hSw; (try dsimp only at hSw); go_simp; (try (with_reducible rfl)); done)); try simp only [Act.put, List.setIfInBounds_toArray, List.set_cons_zero, List.set_cons_succ])
          (refine wpL_calm (o := { dst := some 34, op := Go.Op.move (Go.Operand.tmp 0), type := 33, pos := "ref.go:78", after := #[], guard := none }) (v := ?_) rfl (Or.inl ⟨by rfl, ?_⟩) ?_; rotate_left; (focus (intro w hSw; (try dsimp only at hSw); go_simp; (try (with_reducible rfl)); done)); try simp only [Act.put, List.setIfInBounds_toArray, List.set_cons_zero, List.set_cons_succ])
          (refine wpL_calm (o := { dst := some 35, op := Go.Op.move (Go.Operand.tmp 6), type := 3, pos := "ref.go:78", after := #[], guard := none }) (v := ?_) rfl (Or.inl ⟨by rfl, ?_⟩) ?_; rotate_left; (focus (intro w hSw; (try dsimp only at hSw); go_simp; (try (with_reducible rfl)); done)); try simp only [Act.put, List.setIfInBounds_toArray, List.set_cons_zero, List.set_cons_succ])
          (refine wpL_calm (o := { dst := some 36, op := Go.Op.indexAddr 33 (Go.Operand.tmp 34) (Go.Operand.tmp 35), type := 0, pos := "ref.go:78", after := #[{ on := 6, ground := Go.Ground.data }, { on := 7, ground := Go.Ground.data }], guard := none }) (v := ?_) rfl (Or.inl ⟨by rfl, ?_⟩) ?_; rotate_left; (focus (intro w hSw; (try dsimp only at hSw); go_simp; (try (with_reducible rfl)); done)); try simp only [Act.put, List.setIfInBounds_toArray, List.set_cons_zero, List.set_cons_succ])
          (refine wpL_calm (o := { dst := some 37, op := Go.Op.load 3 (Go.Operand.tmp 36), type := 3, pos := "ref.go:78", after := #[{ on := 8, ground := Go.Ground.data }], guard := none }) (v := ?_) rfl (Or.inl ⟨by rfl, ?_⟩) ?_; rotate_left; (focus (intro w hSw; (try dsimp only at hSw); go_simp; (try (with_reducible rfl)); done)); try simp only [Act.put, List.setIfInBounds_toArray, List.set_cons_zero, List.set_cons_succ])
          (refine wpL_calm (o := { dst := some 38, op := Go.Op.move (Go.Operand.tmp 1), type := 33, pos := "ref.go:78", after := #[], guard := none }) (v := ?_) rfl (Or.inl ⟨by rfl, ?_⟩) ?_; rotate_left; (focus (intro w hSw; (try dsimp only at hSw); go_simp; (try (with_reducible rfl)); done)); try simp only [Act.put, List.setIfInBounds_toArray, List.set_cons_zero, List.set_cons_succ])
          (refine wpL_calm (o := { dst := some 39, op := Go.Op.move (Go.Operand.tmp 8), type := 3, pos := "ref.go:78", after := #[], guard := none }) (v := ?_) rfl (Or.inl ⟨by rfl, ?_⟩) ?_; rotate_left; (focus (intro w hSw; (try dsimp only at hSw); go_simp; (try (with_reducible rfl)); done)); try simp only [Act.put, List.setIfInBounds_toArray, List.set_cons_zero, List.set_cons_succ])
          (refine wpL_calm (o := { dst := some 40, op := Go.Op.indexAddr 33 (Go.Operand.tmp 38) (Go.Operand.tmp 39), type := 0, pos := "ref.go:78", after := #[{ on := 10, ground := Go.Ground.data }, { on := 11, ground := Go.Ground.data }], guard := none }) (v := ?_) rfl (Or.inl ⟨by rfl, ?_⟩) ?_; rotate_left; (focus (intro w hSw; (try dsimp only at hSw); go_simp; (try (with_reducible rfl)); done)); try simp only [Act.put, List.setIfInBounds_toArray, List.set_cons_zero, List.set_cons_succ])
          (refine wpL_calm (o := { dst := some 41, op := Go.Op.load 3 (Go.Operand.tmp 40), type := 3, pos := "ref.go:78", after := #[{ on := 12, ground := Go.Ground.data }], guard := none }) (v := ?_) rfl (Or.inl ⟨by rfl, ?_⟩) ?_; rotate_left; (focus (intro w hSw; (try dsimp only at hSw); go_simp; (try (with_reducible rfl)); done)); try simp only [Act.put, List.setIfInBounds_toArray, List.set_cons_zero, List.set_cons_succ])
          (refine wpL_calm (o := { dst := some 42, op := Go.Op.binOp Go.BinOp.mul 3 (Go.Operand.tmp 37) (Go.Operand.tmp 41) 3, type := 3, pos := "ref.go:78", after := #[{ on := 9, ground := Go.Ground.data }, { on := 13, ground := Go.Ground.data }], guard := none }) (v := ?_) rfl (Or.inl ⟨by rfl, ?_⟩) ?_; rotate_left; (focus (intro w hSw; (try dsimp only at hSw); go_simp; (try (with_reducible rfl)); done)); try simp only [Act.put, List.setIfInBounds_toArray, List.set_cons_zero, List.set_cons_succ])
          (refine wpL_calm (o := { dst := some 43, op := Go.Op.binOp Go.BinOp.add 3 (Go.Operand.tmp 33) (Go.Operand.tmp 42) 3, type := 3, pos := "ref.go:78", after := #[{ on := 5, ground := Go.Ground.data }, { on := 14, ground := Go.Ground.data }], guard := none }) (v := ?_) rfl (Or.inl ⟨by rfl, ?_⟩) ?_; rotate_left; (focus (intro w hSw; (try dsimp only at hSw); go_simp; (try (with_reducible rfl)); done)); try simp only [Act.put, List.setIfInBounds_toArray, List.set_cons_zero, List.set_cons_succ])
          (refine wpL_calm (o := { dst := some 44, op := Go.Op.move (Go.Operand.tmp 7), type := 3, pos := "ref.go:78", after := #[], guard := none }) (v := ?_) rfl (Or.inl ⟨by rfl, ?_⟩) ?_; rotate_left; (focus (intro w hSw; (try dsimp only at hSw); go_simp; (try (with_reducible rfl)); done)); try simp only [Act.put, List.setIfInBounds_toArray, List.set_cons_zero, List.set_cons_succ])
          (refine wpL_calm (o := { dst := some 45, op := Go.Op.binOp Go.BinOp.add 3 (Go.Operand.tmp 43) (Go.Operand.tmp 44) 3, type := 3, pos := "ref.go:78", after := #[{ on := 15, ground := Go.Ground.data }, { on := 16, ground := Go.Ground.data }], guard := none }) (v := ?_) rfl (Or.inl ⟨by rfl, ?_⟩) ?_; rotate_left; (focus (intro w hSw; (try dsimp only at hSw); go_simp; (try (with_reducible rfl)); done)); try simp only [Act.put, List.setIfInBounds_toArray, List.set_cons_zero, List.set_cons_succ])
          (refine wpL_calm (o := { dst := some 9, op := Go.Op.assign (Go.Operand.tmp 45), type := 3, pos := "ref.go:78", after := #[{ on := 17, ground := Go.Ground.data }, { on := 0, ground := Go.Ground.phase }, { on := 1, ground := Go.Ground.phase }, { on := 2, ground := Go.Ground.phase }, { on := 3, ground := Go.Ground.phase }, { on := 4, ground := Go.Ground.phase }, { on := 5, ground := Go.Ground.phase }, { on := 6, ground := Go.Ground.phase }, { on := 7, ground := Go.Ground.phase }, { on := 8, ground := Go.Ground.phase }, { on := 9, ground := Go.Ground.phase }, { on := 10, ground := Go.Ground.phase }, { on := 11, ground := Go.Ground.phase }, { on := 12, ground := Go.Ground.phase }, { on := 13, ground := Go.Ground.phase }, { on := 14, ground := Go.Ground.phase }, { on := 15, ground := Go.Ground.phase }, { on := 16, ground := Go.Ground.phase }, { on := 17, ground := Go.Ground.phase }], guard := none }) (v := ?_) rfl (Or.inl ⟨by rfl, ?_⟩) ?_; rotate_left; (focus (intro w hSw; (try dsimp only at hSw); go_simp; (try (with_reducible rfl)); done)); try simp only [Act.put, List.setIfInBounds_toArray, List.set_cons_zero, List.set_cons_succ])
          refine wpL_nil ?_
          refine NoPanic.normal ?_
          clear hHeld da db e1 e2 e3 e4
          go_wp2_with fail
          go_roundw
          case rel => exact ⟨k + 1, by go_num, by omega, by rw [HST.out]; exact congrArg _ HE2.out, Lib.hid (by rw [HST.out, HE1.out]; exact (RowN.set HR.out (i + k) _ (by have := HOL.out; have := Hq2.out; omega)).drew), Lib.hid ((HB1.out.setCell (p := ⟨gt, _, none⟩) (Nat.le_refl _) _).drew)⟩
          case measure => simp [intOf]; omega
        · obtain rfl : k = B := by omega
          have e0 := Hq4.out (i + k) (by omega)
          have d0 := World.rowIs.cell HR.out (i := i + k) (by omega)
          have f0 := World.rowIs.frozen HR.out (i + k)
          rw [e0] at d0 HTS
          clear Hq4
          generalize tmI a b i L k = r at *
          generalize hc : r.2 = c at *
          have p1 : (i : Int) + (k : Int) < (A : Int) + (k : Int) := by omega
          have p2 : ((i : Int) + (k : Int)).toNat = i + k := by omega
          go_wp2_with fail
          go_roundw
          case rel => exact ⟨i + 1, by go_num, by omega, Lib.hid (by rw [HTS.out]; rw [Nat.zero_add]; exact RowN.set HR.out (i + k) c (by have := HOL.out; omega)), Lib.hid (HB1.out.setCell (p := ⟨gt, _, none⟩) (Nat.le_refl _) _)⟩
          case measure => simp [intOf]; omega
    · obtain rfl : i = A := by omega
      go_wp2_with fail
      go_ret
      refine ⟨by rw [HGT.out]; rfl, ?_, by rw [HGT.out]; exact HB1.out⟩
      rw [HGT.out, ← HT.out]
      exact HR.out
end Go.Proofs.YtndhegdhkoileaaDoor
