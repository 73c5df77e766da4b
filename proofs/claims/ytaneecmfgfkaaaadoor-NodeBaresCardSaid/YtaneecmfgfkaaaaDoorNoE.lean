/- What must come at any rate (layer 17). -/
import Derived.Test.YtaneecmfgfkaaaaDoorNoD
namespace Go.Proofs.YtaneecmfgfkaaaaDoor
open Go.RowKit Go.Deep Go.Maps
set_option linter.unusedVariables false
set_option linter.unusedSimpArgs false
/-- 64 bytes 0. -/
def z64B : ByteArray := ⟨(List.replicate 64 (0 : UInt8)).toArray⟩
theorem z64B_size : z64B.size = 64 := by decide
theorem one0 : (⟨#[0]⟩ : ByteArray).size = 1 := rfl
theorem path0 : pathL 0 6 = [31, 15, 7, 3, 1, 0] := by decide
theorem zerosB64 (w : World) : Calls Tryd.prog 30 #[.int .i64 64] w fun e w' => e = .returned (.string z64B) ∧ Below w.heap.size w w' := zeros_anyz 64 w (by omega)
theorem side0 (w : World) : Calls Tryd.prog 43 #[.int .i64 63, .int .i64 0] w fun e w' => e = .returned (.tuple #[.int .i64 1, .int .i64 0]) ∧ Below w.heap.size w w' := side_hit 63 5 w (by omega) (by omega)
theorem path0_any (w : World) : Calls Tryd.prog 42 #[.int .i64 0] w fun e w' => ∃ v, e = .returned (.tuple #[v, .int .i64 0]) ∧ w'.ownsRow w.heap.size 3 1 v 6 (nv [31, 15, 7, 3, 1, 0]) ∧ Below w.heap.size w w' := by
  have := path_yes 0 w (by omega)
  rw [path0] at this
  exact this
/-- The numbers of a path, newly made. -/
theorem made6 (w : World) : ∃ w1, Hid (w.alloc (.cells #[.int .i64 31, .int .i64 15, .int .i64 7, .int .i64 3, .int .i64 1, .int .i64 0] 3) = w1) ∧ NAt w1 w.heap.size [31, 15, 7, 3, 1, 0] ∧ Below w.heap.size w w1 := by
  have h := heap_alloc_new w (.cells #[.int .i64 31, .int .i64 15, .int .i64 7, .int .i64 3, .int .i64 1, .int .i64 0] 3)
  refine ⟨_, Lib.hid rfl, ⟨fun j u hu => ?_, (Array.getElem?_eq_some_iff.1 h).1⟩, (Below.refl _ _).alloc (Nat.le_refl _) _⟩
  have hj : j < 6 := (List.getElem?_eq_some_iff.1 hu).1
  rw [Nat.zero_add, cell_of_row _ _ j _ _ _ h, ← hu]
  rcases (show j = 0 ∨ j = 1 ∨ j = 2 ∨ j = 3 ∨ j = 4 ∨ j = 5 by omega) with rfl | rfl | rfl | rfl | rfl | rfl <;> rfl
attribute [local irreducible] z64B digA sumL z32
set_option maxRecDepth 100000 in
set_option maxHeartbeats 4000000 in
theorem awake17 (w : World) (hG : Gl w) : Calls Tryd.prog 27 #[] w fun e w' => e = .returned (.bool true) ∧ Below w.heap.size w w' := by
  have hz := zero_dig
  have HZ := Lib.hid zerosB64
  have HL := Lib.hid (fun w hw => leaf_nil z64B w hw z64B_size)
  have hsz : ((⟨#[0]⟩ : ByteArray) ++ z64B).size ≤ 1000 := by rw [ByteArray.size_append, one0, z64B_size]; omega
  have HS := Lib.hid (fun w hw => sum_any ((⟨#[0]⟩ : ByteArray) ++ z64B) w (by omega) hw)
  have hadd : ∀ V : World, (Op.stringOp .add (⟨#[0]⟩ : ByteArray) z64B).run Tryd.prog V = .ok (.string ((⟨#[0]⟩ : ByteArray) ++ z64B)) V := fun V => run_string_add_sum V _ _ (by rw [one0, z64B_size]; omega)
  obtain ⟨hdz, hone⟩ := dig_ok' ((⟨#[0]⟩ : ByteArray) ++ z64B).data.toList
  have heq := eql_dig (sumL ((⟨#[0]⟩ : ByteArray) ++ z64B).data.toList) (sumL_len _)
  have HBV : Hid ((bv (sumL ((⟨#[0]⟩ : ByteArray) ++ z64B).data.toList)).toArray = digA (sumL ((⟨#[0]⟩ : ByteArray) ++ z64B).data.toList)) := Lib.hid (by with_unfolding_all rfl)
  have H32 := Lib.hid (dig_len ((⟨#[0]⟩ : ByteArray) ++ z64B).data.toList)
  clear hsz
  generalize hms : (⟨#[0]⟩ : ByteArray) ++ z64B = ms at *
  have HMS := Lib.hid hms
  clear hms
  go_enter Tryd.func27, Tryd.ntmps27
  go_wp2_with fail
  refine (path0_any w).mono ?_
  rintro e w1 ⟨v, rfl, HO, B1⟩
  obtain ⟨gp, cp, rfl, hgc, hgb, hgl, hr⟩ := own_rowI HO (by omega)
  have HA1 : NAt w1 gp [31, 15, 7, 3, 1, 0] := ⟨hr, hgl⟩
  clear HO hr
  go_wp2_with fail
  refine (side0 _).mono ?_
  rintro e w2 ⟨rfl, b2⟩
  have HA2 := HA1.below b2
  have B2 := B1.trans (b2.mono B1.size)
  clear HA1 b2 B1
  go_wp2_with fail
  refine (HZ.out _).mono ?_
  rintro e w3 ⟨rfl, b3⟩
  have HA3 := HA2.below b3
  have B3 := B2.trans (b3.mono B2.size)
  have G3 := hG.below B3
  clear HA2 b3 B2
  go_wp2_with fail
  refine (HL.out _ G3).mono ?_
  rintro e w4 ⟨rfl, b4⟩
  have HA4 := HA3.below b4
  have B4 := B3.trans (b4.mono B3.size)
  clear HA3 b4 B3 G3
  obtain ⟨w8, HW8, hd8, b8⟩ := stored_dg w4 (digA (sumL ms.data.toList))
  have HA8 := HA4.below b8
  have B8 := B4.trans (b8.mono B4.size)
  have G8 := hG.below B8
  generalize digA (sumL ms.data.toList) = DG at *
  generalize bv (sumL ms.data.toList) = BV at *
  go_upto_region 4 with (refine wpList_store_row rfl _ _ _ rfl w4.heap.size DG rfl rfl 34 _ (heap_alloc_new _ _) (by rw [hdz]; kernel_rfl) (by rw [hdz]; with_unfolding_all rfl) hone ?_)
  rw [HW8.out]
  clear HW8 HA4 b8 B4
  have hq8 : w4.heap.size < w8.heap.size := (Array.getElem?_eq_some_iff.1 hd8).1
  have hr8 := range_dg hd8 HBV.out
  generalize w4.heap.size = q at *
  obtain ⟨w9, HW9, HN9, b9⟩ := made6 w8
  have B9 : Below w.heap.size w w9.drew := (B8.trans (b9.mono B8.size)).drew
  have HA9 : NAt w9 gp [31, 15, 7, 3, 1, 0] := HA8.below b9
  have hr9 := range_below hr8 b9 hq8
  have hq9 : q < w9.heap.size := Nat.lt_of_lt_of_le hq8 b9.size
  have HI : Hid (Calls Tryd.prog 45 #[.slice (some ⟨gp, 0, none⟩) 6 cp, .slice (some ⟨w8.heap.size, 0, none⟩) 6 6] w9.drew fun e w' => e = .returned (.bool true) ∧ Below w9.drew.heap.size w9.drew w') := Lib.hid (ints_same [31, 15, 7, 3, 1, 0] gp w8.heap.size cp 6 w9.drew ⟨HA9.1, HA9.2⟩ ⟨HN9.1, HN9.2⟩ (by decide))
  clear HA8 HN9 HA9
  refine wp_region_lin (S := (fun w' => w'.rangeAt q 0 BV)) [(0, true), (1, true), (2, true), (3, true), (4, true), (5, true), (6, true), (7, true), (8, true), (9, true), (10, true), (11, true), (12, false), (13, false), (14, true), (15, true), (16, true), (17, true), (18, true), (19, true), (20, true), (21, false), (22, true), (23, false), (24, true), (25, true), (26, true)] (by kernel_rfl) (by kernel_rfl) rfl (by kernel_rfl) ?_ (fun hHeld => ?_)
  · (try dsimp only); exact hr8
  (refine wpL_calm (o := { dst := some 20, op := Go.Op.move (Go.Operand.tmp 2), type := 30, pos := "law.go:17", after := #[], guard := none }) (v := ?_) rfl (Or.inl ⟨by rfl, ?_⟩) ?_; rotate_left; (focus (intro w hSw; (try dsimp only at hSw); go_simp; (try (with_reducible rfl)); done)); try simp only [Act.put, List.setIfInBounds_toArray, List.set_cons_zero, List.set_cons_succ])
  (refine wpL_calm (o := { dst := some 21, op := Go.Op.binOp Go.BinOp.eql 30 (Go.Operand.tmp 20) (Go.Operand.const (Go.Value.int Go.IntKind.i64 0)) 30, type := 4, pos := "law.go:17", after := #[{ on := 0, ground := Go.Ground.data }], guard := none }) (v := ?_) rfl (Or.inl ⟨by rfl, ?_⟩) ?_; rotate_left; (focus (intro w hSw; (try dsimp only at hSw); go_simp; (try (with_reducible rfl)); done)); try simp only [Act.put, List.setIfInBounds_toArray, List.set_cons_zero, List.set_cons_succ])
  (refine wpL_calm (o := { dst := some 22, op := Go.Op.move (Go.Operand.tmp 21), type := 4, pos := "law.go:17", after := #[{ on := 1, ground := Go.Ground.data }], guard := none }) (v := ?_) rfl (Or.inl ⟨by rfl, ?_⟩) ?_; rotate_left; (focus (intro w hSw; (try dsimp only at hSw); go_simp; (try (with_reducible rfl)); done)); try simp only [Act.put, List.setIfInBounds_toArray, List.set_cons_zero, List.set_cons_succ])
  first | (refine wpL_calm (o := { dst := some 23, op := Go.Op.move (Go.Operand.tmp 4), type := 30, pos := "law.go:17", after := #[{ on := 2, ground := Go.Ground.guard }], guard := some (2, true) }) (v := ?_) rfl (Or.inl ⟨by rfl, ?_⟩) ?_; rotate_left; (focus (intro w hSw; (try dsimp only at hSw); go_simp; (try (with_reducible rfl)); done)); try simp only [Act.put, List.setIfInBounds_toArray, List.set_cons_zero, List.set_cons_succ]) | (refine wpL_calm (o := { dst := some 23, op := Go.Op.move (Go.Operand.tmp 4), type := 30, pos := "law.go:17", after := #[{ on := 2, ground := Go.Ground.guard }], guard := some (2, true) }) (v := undef) rfl (Or.inr ⟨by rfl, rfl⟩) ?_; try simp only [Act.put, List.setIfInBounds_toArray, List.set_cons_zero, List.set_cons_succ])
  first | (refine wpL_calm (o := { dst := some 24, op := Go.Op.binOp Go.BinOp.eql 30 (Go.Operand.tmp 23) (Go.Operand.const (Go.Value.int Go.IntKind.i64 0)) 30, type := 4, pos := "law.go:17", after := #[{ on := 3, ground := Go.Ground.data }, { on := 2, ground := Go.Ground.guard }], guard := some (2, true) }) (v := ?_) rfl (Or.inl ⟨by rfl, ?_⟩) ?_; rotate_left; (focus (intro w hSw; (try dsimp only at hSw); go_simp; (try (with_reducible rfl)); done)); try simp only [Act.put, List.setIfInBounds_toArray, List.set_cons_zero, List.set_cons_succ]) | (refine wpL_calm (o := { dst := some 24, op := Go.Op.binOp Go.BinOp.eql 30 (Go.Operand.tmp 23) (Go.Operand.const (Go.Value.int Go.IntKind.i64 0)) 30, type := 4, pos := "law.go:17", after := #[{ on := 3, ground := Go.Ground.data }, { on := 2, ground := Go.Ground.guard }], guard := some (2, true) }) (v := undef) rfl (Or.inr ⟨by rfl, rfl⟩) ?_; try simp only [Act.put, List.setIfInBounds_toArray, List.set_cons_zero, List.set_cons_succ])
  (refine wpL_calm (o := { dst := some 25, op := Go.Op.pick (Go.Operand.tmp 22) (Go.Operand.tmp 24) (Go.Operand.const (Go.Value.bool false)), type := 4, pos := "law.go:17", after := #[{ on := 2, ground := Go.Ground.data }, { on := 4, ground := Go.Ground.data }], guard := none }) (v := ?_) rfl (Or.inl ⟨by rfl, ?_⟩) ?_; rotate_left; (focus (intro w hSw; (try dsimp only at hSw); go_simp; (try (with_reducible rfl)); done)); try simp only [Act.put, List.setIfInBounds_toArray, List.set_cons_zero, List.set_cons_succ])
  (refine wpL_calm (o := { dst := some 26, op := Go.Op.move (Go.Operand.tmp 25), type := 4, pos := "law.go:17", after := #[{ on := 5, ground := Go.Ground.data }, { on := 2, ground := Go.Ground.chain }], guard := none }) (v := ?_) rfl (Or.inl ⟨by rfl, ?_⟩) ?_; rotate_left; (focus (intro w hSw; (try dsimp only at hSw); go_simp; (try (with_reducible rfl)); done)); try simp only [Act.put, List.setIfInBounds_toArray, List.set_cons_zero, List.set_cons_succ])
  first | (refine wpL_calm (o := { dst := some 27, op := Go.Op.move (Go.Operand.tmp 6), type := 30, pos := "law.go:17", after := #[{ on := 6, ground := Go.Ground.guard }], guard := some (6, true) }) (v := ?_) rfl (Or.inl ⟨by rfl, ?_⟩) ?_; rotate_left; (focus (intro w hSw; (try dsimp only at hSw); go_simp; (try (with_reducible rfl)); done)); try simp only [Act.put, List.setIfInBounds_toArray, List.set_cons_zero, List.set_cons_succ]) | (refine wpL_calm (o := { dst := some 27, op := Go.Op.move (Go.Operand.tmp 6), type := 30, pos := "law.go:17", after := #[{ on := 6, ground := Go.Ground.guard }], guard := some (6, true) }) (v := undef) rfl (Or.inr ⟨by rfl, rfl⟩) ?_; try simp only [Act.put, List.setIfInBounds_toArray, List.set_cons_zero, List.set_cons_succ])
  first | (refine wpL_calm (o := { dst := some 28, op := Go.Op.binOp Go.BinOp.eql 30 (Go.Operand.tmp 27) (Go.Operand.const (Go.Value.int Go.IntKind.i64 0)) 30, type := 4, pos := "law.go:17", after := #[{ on := 7, ground := Go.Ground.data }, { on := 6, ground := Go.Ground.guard }], guard := some (6, true) }) (v := ?_) rfl (Or.inl ⟨by rfl, ?_⟩) ?_; rotate_left; (focus (intro w hSw; (try dsimp only at hSw); go_simp; (try (with_reducible rfl)); done)); try simp only [Act.put, List.setIfInBounds_toArray, List.set_cons_zero, List.set_cons_succ]) | (refine wpL_calm (o := { dst := some 28, op := Go.Op.binOp Go.BinOp.eql 30 (Go.Operand.tmp 27) (Go.Operand.const (Go.Value.int Go.IntKind.i64 0)) 30, type := 4, pos := "law.go:17", after := #[{ on := 7, ground := Go.Ground.data }, { on := 6, ground := Go.Ground.guard }], guard := some (6, true) }) (v := undef) rfl (Or.inr ⟨by rfl, rfl⟩) ?_; try simp only [Act.put, List.setIfInBounds_toArray, List.set_cons_zero, List.set_cons_succ])
  (refine wpL_calm (o := { dst := some 29, op := Go.Op.pick (Go.Operand.tmp 26) (Go.Operand.tmp 28) (Go.Operand.const (Go.Value.bool false)), type := 4, pos := "law.go:17", after := #[{ on := 6, ground := Go.Ground.data }, { on := 8, ground := Go.Ground.data }], guard := none }) (v := ?_) rfl (Or.inl ⟨by rfl, ?_⟩) ?_; rotate_left; (focus (intro w hSw; (try dsimp only at hSw); go_simp; (try (with_reducible rfl)); done)); try simp only [Act.put, List.setIfInBounds_toArray, List.set_cons_zero, List.set_cons_succ])
  (refine wpL_calm (o := { dst := some 30, op := Go.Op.move (Go.Operand.tmp 29), type := 4, pos := "law.go:17", after := #[{ on := 9, ground := Go.Ground.data }, { on := 6, ground := Go.Ground.chain }], guard := none }) (v := ?_) rfl (Or.inl ⟨by rfl, ?_⟩) ?_; rotate_left; (focus (intro w hSw; (try dsimp only at hSw); go_simp; (try (with_reducible rfl)); done)); try simp only [Act.put, List.setIfInBounds_toArray, List.set_cons_zero, List.set_cons_succ])
  first | (refine wpL_calm (o := { dst := some 31, op := Go.Op.move (Go.Operand.tmp 1), type := 88, pos := "law.go:17", after := #[{ on := 10, ground := Go.Ground.guard }], guard := some (10, true) }) (v := ?_) rfl (Or.inl ⟨by rfl, ?_⟩) ?_; rotate_left; (focus (intro w hSw; (try dsimp only at hSw); go_simp; (try (with_reducible rfl)); done)); try simp only [Act.put, List.setIfInBounds_toArray, List.set_cons_zero, List.set_cons_succ]) | (refine wpL_calm (o := { dst := some 31, op := Go.Op.move (Go.Operand.tmp 1), type := 88, pos := "law.go:17", after := #[{ on := 10, ground := Go.Ground.guard }], guard := some (10, true) }) (v := undef) rfl (Or.inr ⟨by rfl, rfl⟩) ?_; try simp only [Act.put, List.setIfInBounds_toArray, List.set_cons_zero, List.set_cons_succ])
  refine wpL_loud1 (o := { dst := some 32, op := Go.Op.buildSlice 88 6 #[(0, Go.Operand.const (Go.Value.int Go.IntKind.i64 31)), (1, Go.Operand.const (Go.Value.int Go.IntKind.i64 15)), (2, Go.Operand.const (Go.Value.int Go.IntKind.i64 7)), (3, Go.Operand.const (Go.Value.int Go.IntKind.i64 3)), (4, Go.Operand.const (Go.Value.int Go.IntKind.i64 1)), (5, Go.Operand.const (Go.Value.int Go.IntKind.i64 0))], type := 88, pos := "law.go:17", after := #[{ on := 10, ground := Go.Ground.guard }], guard := some (10, true) }) rfl (fun K hK => ?_)
  (go_simp; rw [HW9.out])
  refine hK.out _ _ ?_ (fun hHeld => ?_)
  · (try dsimp only); exact hr9
  clear hK K
  try simp only [Act.put, List.setIfInBounds_toArray, List.set_cons_zero, List.set_cons_succ]
  refine wpL_loud1 (o := { dst := some 33, op := Go.Op.call { callee := Go.Callee.value (Go.Operand.func 45), args := #[Go.Operand.tmp 31, Go.Operand.tmp 32], argTypes := #[88, 88] }, type := 4, pos := "law.go:17", after := #[{ on := 11, ground := Go.Ground.data }, { on := 12, ground := Go.Ground.data }, { on := 10, ground := Go.Ground.chain }, { on := 10, ground := Go.Ground.guard }], guard := some (10, true) }) rfl (fun K hK => ?_)
  (go_simp; go_at_call 45; refine HI.out.mono ?_; rintro e w10 ⟨rfl, b10⟩)
  try go_wp2_with fail
  refine hK.out _ _ ?_ (fun hHeld => ?_)
  · (try dsimp only); exact range_below (w := w9.drew) hr9 b10 hq9
  clear hK K
  try simp only [Act.put, List.setIfInBounds_toArray, List.set_cons_zero, List.set_cons_succ]
  (refine wpL_calm (o := { dst := some 34, op := Go.Op.pick (Go.Operand.tmp 30) (Go.Operand.tmp 33) (Go.Operand.const (Go.Value.bool false)), type := 4, pos := "law.go:17", after := #[{ on := 10, ground := Go.Ground.data }, { on := 13, ground := Go.Ground.data }], guard := none }) (v := ?_) rfl (Or.inl ⟨by rfl, ?_⟩) ?_; rotate_left; (focus (intro w hSw; (try dsimp only at hSw); go_simp; (try (with_reducible rfl)); done)); try simp only [Act.put, List.setIfInBounds_toArray, List.set_cons_zero, List.set_cons_succ])
  (refine wpL_calm (o := { dst := some 35, op := Go.Op.move (Go.Operand.tmp 34), type := 4, pos := "law.go:17", after := #[{ on := 14, ground := Go.Ground.data }, { on := 13, ground := Go.Ground.chain }], guard := none }) (v := ?_) rfl (Or.inl ⟨by rfl, ?_⟩) ?_; rotate_left; (focus (intro w hSw; (try dsimp only at hSw); go_simp; (try (with_reducible rfl)); done)); try simp only [Act.put, List.setIfInBounds_toArray, List.set_cons_zero, List.set_cons_succ])
  first | (refine wpL_calm (o := { dst := some 36, op := Go.Op.move (Go.Operand.tmp 3), type := 3, pos := "law.go:17", after := #[{ on := 15, ground := Go.Ground.guard }], guard := some (15, true) }) (v := ?_) rfl (Or.inl ⟨by rfl, ?_⟩) ?_; rotate_left; (focus (intro w hSw; (try dsimp only at hSw); go_simp; (try (with_reducible rfl)); done)); try simp only [Act.put, List.setIfInBounds_toArray, List.set_cons_zero, List.set_cons_succ]) | (refine wpL_calm (o := { dst := some 36, op := Go.Op.move (Go.Operand.tmp 3), type := 3, pos := "law.go:17", after := #[{ on := 15, ground := Go.Ground.guard }], guard := some (15, true) }) (v := undef) rfl (Or.inr ⟨by rfl, rfl⟩) ?_; try simp only [Act.put, List.setIfInBounds_toArray, List.set_cons_zero, List.set_cons_succ])
  first | (refine wpL_calm (o := { dst := some 37, op := Go.Op.binOp Go.BinOp.eql 3 (Go.Operand.tmp 36) (Go.Operand.const (Go.Value.int Go.IntKind.i64 1)) 3, type := 4, pos := "law.go:17", after := #[{ on := 16, ground := Go.Ground.data }, { on := 15, ground := Go.Ground.guard }], guard := some (15, true) }) (v := ?_) rfl (Or.inl ⟨by rfl, ?_⟩) ?_; rotate_left; (focus (intro w hSw; (try dsimp only at hSw); go_simp; (try (with_reducible rfl)); done)); try simp only [Act.put, List.setIfInBounds_toArray, List.set_cons_zero, List.set_cons_succ]) | (refine wpL_calm (o := { dst := some 37, op := Go.Op.binOp Go.BinOp.eql 3 (Go.Operand.tmp 36) (Go.Operand.const (Go.Value.int Go.IntKind.i64 1)) 3, type := 4, pos := "law.go:17", after := #[{ on := 16, ground := Go.Ground.data }, { on := 15, ground := Go.Ground.guard }], guard := some (15, true) }) (v := undef) rfl (Or.inr ⟨by rfl, rfl⟩) ?_; try simp only [Act.put, List.setIfInBounds_toArray, List.set_cons_zero, List.set_cons_succ])
  (refine wpL_calm (o := { dst := some 38, op := Go.Op.pick (Go.Operand.tmp 35) (Go.Operand.tmp 37) (Go.Operand.const (Go.Value.bool false)), type := 4, pos := "law.go:17", after := #[{ on := 15, ground := Go.Ground.data }, { on := 17, ground := Go.Ground.data }], guard := none }) (v := ?_) rfl (Or.inl ⟨by rfl, ?_⟩) ?_; rotate_left; (focus (intro w hSw; (try dsimp only at hSw); go_simp; (try (with_reducible rfl)); done)); try simp only [Act.put, List.setIfInBounds_toArray, List.set_cons_zero, List.set_cons_succ])
  (refine wpL_calm (o := { dst := some 39, op := Go.Op.move (Go.Operand.tmp 38), type := 4, pos := "law.go:17", after := #[{ on := 18, ground := Go.Ground.data }, { on := 15, ground := Go.Ground.chain }], guard := none }) (v := ?_) rfl (Or.inl ⟨by rfl, ?_⟩) ?_; rotate_left; (focus (intro w hSw; (try dsimp only at hSw); go_simp; (try (with_reducible rfl)); done)); try simp only [Act.put, List.setIfInBounds_toArray, List.set_cons_zero, List.set_cons_succ])
  refine wpL_calm (o := { dst := some 40, op := Go.Op.load 34 (Go.Operand.tmp 5), type := 34, pos := "law.go:17", after := #[{ on := 19, ground := Go.Ground.guard }], guard := some (19, true) }) rfl (yieldsIf_load_mid (by rfl) _ _ rfl q 0 rfl BV _ (fun _ h => h) Tryd.underlying34 rfl (by rw [H32.out]; kernel_rfl)) ?_; rw [HBV.out]
  try simp only [Act.put, List.setIfInBounds_toArray, List.set_cons_zero, List.set_cons_succ]
  refine wpL_loud1 (o := { dst := some 41, op := Go.Op.call { callee := Go.Callee.value (Go.Operand.func 30), args := #[Go.Operand.const (Go.Value.int Go.IntKind.i64 64)], argTypes := #[3] }, type := 9, pos := "law.go:17", after := #[{ on := 19, ground := Go.Ground.chain }, { on := 19, ground := Go.Ground.guard }], guard := some (19, true) }) rfl (fun K hK => ?_)
  (go_simp; go_at_call 30; refine (HZ.out _).mono ?_; rintro e w11 ⟨rfl, b11⟩; have B10 := B9.trans (b10.mono B9.size); have B11 := B10.trans (b11.mono B10.size); have hr11 := range_below (range_below (w := w9.drew) hr9 b10 hq9) b11 (Nat.lt_of_lt_of_le hq9 b10.size))
  try go_wp2_with fail
  refine hK.out _ _ ?_ (fun hHeld => ?_)
  · (try dsimp only); exact hr11
  clear hK K
  try simp only [Act.put, List.setIfInBounds_toArray, List.set_cons_zero, List.set_cons_succ]
  first | (refine wpL_calm (o := { dst := some 42, op := Go.Op.binOp Go.BinOp.add 9 (Go.Operand.const (Go.Value.string { data := #[0] })) (Go.Operand.tmp 41) 9, type := 9, pos := "law.go:17", after := #[{ on := 21, ground := Go.Ground.data }, { on := 19, ground := Go.Ground.guard }], guard := some (19, true) }) (v := ?_) rfl (Or.inl ⟨by rfl, ?_⟩) ?_; rotate_left; (focus (intro w hSw; (try dsimp only at hSw); go_simp; (try (with_reducible rfl)); done)); try simp only [Act.put, List.setIfInBounds_toArray, List.set_cons_zero, List.set_cons_succ]) | (refine wpL_calm (o := { dst := some 42, op := Go.Op.binOp Go.BinOp.add 9 (Go.Operand.const (Go.Value.string { data := #[0] })) (Go.Operand.tmp 41) 9, type := 9, pos := "law.go:17", after := #[{ on := 21, ground := Go.Ground.data }, { on := 19, ground := Go.Ground.guard }], guard := some (19, true) }) (v := undef) rfl (Or.inr ⟨by rfl, rfl⟩) ?_; try simp only [Act.put, List.setIfInBounds_toArray, List.set_cons_zero, List.set_cons_succ])
  refine wpL_loud1 (o := { dst := some 43, op := Go.Op.call { callee := Go.Callee.value (Go.Operand.func 14), args := #[Go.Operand.tmp 42], argTypes := #[9] }, type := 34, pos := "law.go:17", after := #[{ on := 22, ground := Go.Ground.data }, { on := 21, ground := Go.Ground.chain }, { on := 19, ground := Go.Ground.guard }], guard := some (19, true) }) rfl (fun K hK => ?_)
  (go_simp; go_at_call 14; refine (HS.out _ (hG.below B11)).mono ?_; rintro e w12 ⟨rfl, b12⟩)
  try go_wp2_with fail
  refine hK.out _ _ ?_ (fun hHeld => ?_)
  · (try dsimp only); exact range_below hr11 b12 (Nat.lt_of_lt_of_le (Nat.lt_of_lt_of_le hq9 b10.size) b11.size)
  clear hK K
  try simp only [Act.put, List.setIfInBounds_toArray, List.set_cons_zero, List.set_cons_succ]
  first | (refine wpL_calm (o := { dst := some 44, op := Go.Op.binOp Go.BinOp.eql 34 (Go.Operand.tmp 40) (Go.Operand.tmp 43) 34, type := 4, pos := "law.go:17", after := #[{ on := 20, ground := Go.Ground.data }, { on := 23, ground := Go.Ground.data }, { on := 19, ground := Go.Ground.guard }], guard := some (19, true) }) (v := ?_) rfl (Or.inl ⟨by rfl, ?_⟩) ?_; rotate_left; (focus (intro w hSw; (try dsimp only at hSw); go_simp; (try (with_reducible rfl)); done)); try simp only [Act.put, List.setIfInBounds_toArray, List.set_cons_zero, List.set_cons_succ]) | (refine wpL_calm (o := { dst := some 44, op := Go.Op.binOp Go.BinOp.eql 34 (Go.Operand.tmp 40) (Go.Operand.tmp 43) 34, type := 4, pos := "law.go:17", after := #[{ on := 20, ground := Go.Ground.data }, { on := 23, ground := Go.Ground.data }, { on := 19, ground := Go.Ground.guard }], guard := some (19, true) }) (v := undef) rfl (Or.inr ⟨by rfl, rfl⟩) ?_; try simp only [Act.put, List.setIfInBounds_toArray, List.set_cons_zero, List.set_cons_succ])
  (refine wpL_calm (o := { dst := some 45, op := Go.Op.pick (Go.Operand.tmp 39) (Go.Operand.tmp 44) (Go.Operand.const (Go.Value.bool false)), type := 4, pos := "law.go:17", after := #[{ on := 19, ground := Go.Ground.data }, { on := 24, ground := Go.Ground.data }], guard := none }) (v := ?_) rfl (Or.inl ⟨by rfl, ?_⟩) ?_; rotate_left; (focus (intro w hSw; (try dsimp only at hSw); go_simp; (try (with_reducible rfl)); done)); try simp only [Act.put, List.setIfInBounds_toArray, List.set_cons_zero, List.set_cons_succ])
  (refine wpL_calm (o := { dst := some 0, op := Go.Op.assign (Go.Operand.tmp 45), type := 4, pos := "law.go:17", after := #[{ on := 25, ground := Go.Ground.data }, { on := 23, ground := Go.Ground.chain }, { on := 0, ground := Go.Ground.phase }, { on := 1, ground := Go.Ground.phase }, { on := 2, ground := Go.Ground.phase }, { on := 3, ground := Go.Ground.phase }, { on := 4, ground := Go.Ground.phase }, { on := 5, ground := Go.Ground.phase }, { on := 6, ground := Go.Ground.phase }, { on := 7, ground := Go.Ground.phase }, { on := 8, ground := Go.Ground.phase }, { on := 9, ground := Go.Ground.phase }, { on := 10, ground := Go.Ground.phase }, { on := 11, ground := Go.Ground.phase }, { on := 12, ground := Go.Ground.phase }, { on := 13, ground := Go.Ground.phase }, { on := 14, ground := Go.Ground.phase }, { on := 15, ground := Go.Ground.phase }, { on := 16, ground := Go.Ground.phase }, { on := 17, ground := Go.Ground.phase }, { on := 18, ground := Go.Ground.phase }, { on := 19, ground := Go.Ground.phase }, { on := 20, ground := Go.Ground.phase }, { on := 21, ground := Go.Ground.phase }, { on := 22, ground := Go.Ground.phase }, { on := 23, ground := Go.Ground.phase }, { on := 24, ground := Go.Ground.phase }, { on := 25, ground := Go.Ground.phase }], guard := none }) (v := ?_) rfl (Or.inl ⟨by rfl, ?_⟩) ?_; rotate_left; (focus (intro w hSw; (try dsimp only at hSw); go_simp; (try (with_reducible rfl)); done)); try simp only [Act.put, List.setIfInBounds_toArray, List.set_cons_zero, List.set_cons_succ])
  refine wpL_nil ?_
  refine NoPanic.normal ?_
  go_wp2_with fail
  go_ret
  exact ⟨rfl, B11.trans (b12.mono B11.size)⟩
end Go.Proofs.YtaneecmfgfkaaaaDoor
