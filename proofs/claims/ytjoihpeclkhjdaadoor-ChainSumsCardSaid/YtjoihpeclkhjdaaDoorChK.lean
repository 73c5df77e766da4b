/- The law ChainSums: starts that are summed (made by genchj.py). -/
import Derived.Test.YtjoihpeclkhjdaaDoorChJ
namespace Go.Proofs.YtjoihpeclkhjdaaDoor
open Go.RowKit Go.Deep Go.Maps Go.ChangeShapes Go.WideShapes
set_option linter.unusedVariables false
set_option linter.unusedSimpArgs false
theorem conv_twoW00 (V : World) (q : Nat) (h : V.heap[q]? = some (.cells #[.int .u8 0, .int .u8 0] 5 (0, 0))) : (convert 35 9 (.slice (some ⟨q, 0, none⟩) 2 2)).run Tryd.prog V = .ok (.string (sB [0, 0])) V :=
  run_convert_bytes_back (P := Tryd.prog) V 35 9 5 ⟨q, 0, none⟩ 2 [0, 0] Tryd.underlying35 Tryd.underlying5 Tryd.underlying9 (fun j hj => by
    rw [Addr.add_mid, Nat.zero_add, cell_of_row _ _ j _ _ _ h]
    rcases (show j = 0 ∨ j = 1 by have : j < 2 := hj; omega) with rfl | rfl <;> rfl)
theorem conv_twoW01 (V : World) (q : Nat) (h : V.heap[q]? = some (.cells #[.int .u8 0, .int .u8 1] 5 (0, 0))) : (convert 35 9 (.slice (some ⟨q, 0, none⟩) 2 2)).run Tryd.prog V = .ok (.string (sB [0, 1])) V :=
  run_convert_bytes_back (P := Tryd.prog) V 35 9 5 ⟨q, 0, none⟩ 2 [0, 1] Tryd.underlying35 Tryd.underlying5 Tryd.underlying9 (fun j hj => by
    rw [Addr.add_mid, Nat.zero_add, cell_of_row _ _ j _ _ _ h]
    rcases (show j = 0 ∨ j = 1 by have : j < 2 := hj; omega) with rfl | rfl <;> rfl)
theorem conv_twoW10 (V : World) (q : Nat) (h : V.heap[q]? = some (.cells #[.int .u8 1, .int .u8 0] 5 (0, 0))) : (convert 35 9 (.slice (some ⟨q, 0, none⟩) 2 2)).run Tryd.prog V = .ok (.string (sB [1, 0])) V :=
  run_convert_bytes_back (P := Tryd.prog) V 35 9 5 ⟨q, 0, none⟩ 2 [1, 0] Tryd.underlying35 Tryd.underlying5 Tryd.underlying9 (fun j hj => by
    rw [Addr.add_mid, Nat.zero_add, cell_of_row _ _ j _ _ _ h]
    rcases (show j = 0 ∨ j = 1 by have : j < 2 := hj; omega) with rfl | rfl <;> rfl)
theorem conv_twoW11 (V : World) (q : Nat) (h : V.heap[q]? = some (.cells #[.int .u8 1, .int .u8 1] 5 (0, 0))) : (convert 35 9 (.slice (some ⟨q, 0, none⟩) 2 2)).run Tryd.prog V = .ok (.string (sB [1, 1])) V :=
  run_convert_bytes_back (P := Tryd.prog) V 35 9 5 ⟨q, 0, none⟩ 2 [1, 1] Tryd.underlying35 Tryd.underlying5 Tryd.underlying9 (fun j hj => by
    rw [Addr.add_mid, Nat.zero_add, cell_of_row _ _ j _ _ _ h]
    rcases (show j = 0 ∨ j = 1 by have : j < 2 := hj; omega) with rfl | rfl <;> rfl)
attribute [local irreducible] digA sumL z32 sB startT keyT chkC chkE kyB
set_option maxRecDepth 100000 in
set_option maxHeartbeats 8000000 in
theorem chainSums_ok00 (s k : ByteArray) (w : World) (hG : Gl w) (hs : s.size ≤ 1000) (hk : k.size ≤ 1000) (h64 : s.size = 64) : Calls Tryd.prog 3 #[.agg #[.string s, .int .i64 0, .int .i64 0, .string k]] w fun e w' => e = .returned (.bool true) ∧ Below w.heap.size w w' := by
  have hz := zero_dig
  have hb := build_z32
  have hnz := neq_z32
  have hgf := hG.sf
  have hgk := hG.sk
  have t1 : ¬ (1000 : Int) < (s.size : Int) := by omega
  have t2 : ¬ (1000 : Int) < (k.size : Int) := by omega
  have ts : ((s.size : Int) != 64) = false := by simp; omega
  have has : (sB [0, 0]).size = 2 := by with_unfolding_all rfl
  have HST := Lib.hid (fun o X w' h1 h2 h3 => start_x00 w.heap.size o X s w' h1 hgf hgk h2 h3 h64)
  have HA1 : Hid (∀ V : World, (Op.stringOp .add (⟨#[115, 116, 97, 114, 116]⟩ : ByteArray) (sB [0, 0])).run Tryd.prog V = .ok (.string (stB ++ sB [0, 0])) V) := Lib.hid (fun V => by with_unfolding_all exact run_string_add_sum V stB (sB [0, 0]) (by rw [stB_size, has]; omega))
  have HA2 : Hid (∀ V : World, (Op.stringOp .add (stB ++ sB [0, 0]) s).run Tryd.prog V = .ok (.string (sB (startT 0 0 s))) V) := Lib.hid (fun V => by rw [← startT_eq]; exact run_string_add_sum V _ _ (by rw [ByteArray.size_append, stB_size, has, h64]; omega))
  have HSA : Hid (∀ w, Gl w → Calls Tryd.prog 10 #[.string (sB (startT 0 0 s))] w fun e w' => e = .returned (.agg (digA (sumL (startT 0 0 s)))) ∧ Below w.heap.size w w') := Lib.hid (fun w hw => by
    have h1 := sum_any (sB (startT 0 0 s)) w (by rw [← startT_eq, ByteArray.size_append, ByteArray.size_append, stB_size, has, h64]; omega) hw
    rw [sB_list' (startT 0 0 s)] at h1
    exact h1)
  obtain ⟨EA, LA, ZA, OA⟩ := dg_parts (sumL (startT 0 0 s)) (sumL_len _)
  have heqA := neq_dig2 (sumL (startT 0 0 s)) (sumL (startT 0 0 s)) (sumL_len _) (sumL_len _)
  simp only [beq_self_eq_true, Bool.not_true] at heqA
  have HEA := Lib.hid EA
  have HLA := Lib.hid LA
  clear EA LA has
  generalize bv (sumL (startT 0 0 s)) = BA at *
  generalize digA (sumL (startT 0 0 s)) = DA at *
  generalize sB (startT 0 0 s) = tA at *
  generalize hnA : stB ++ sB [0, 0] = nA at *
  clear hnA
  have HCK := Lib.hid (fun o X w' h1 h2 h3 => check_u w.heap.size o X k w' h1 hgf hgk h2 h3)
  obtain ⟨w1, HW1, hc1, B1⟩ := made_four w s k 0 0
  go_enter Tryd.func3, Tryd.ntmps3
  go_upto_region 1 with fail
  rw [HW1.out]
  clear HW1
  refine wp_region_lin (S := (fun w' => w'.cell? ⟨w.heap.size, 0, none⟩ = some (.string s) ∧ w'.cell? ⟨w.heap.size, 1, none⟩ = some (.int .i64 0) ∧ w'.cell? ⟨w.heap.size, 2, none⟩ = some (.int .i64 0) ∧ w'.cell? ⟨w.heap.size, 3, none⟩ = some (.string k))) [(0, true), (1, true), (2, true), (3, true), (4, true), (5, true), (6, true), (7, true), (8, true), (9, true), (10, true), (11, true)] (by kernel_rfl) (by kernel_rfl) rfl (by kernel_rfl) ?_ (fun hHeld => ?_)
  · (try dsimp only); exact hc1
  (refine wpL_calm (o := { dst := some 16, op := Go.Op.fieldAddr 23 (Go.Operand.tmp 1) 0, type := 0, pos := "law.go:31", after := #[], guard := none }) (v := ?_) rfl (Or.inl ⟨by rfl, ?_⟩) ?_; rotate_left; (focus (intro w hSw; (try dsimp only at hSw); go_simp; (try (with_reducible rfl)); done)); try simp only [Act.put, List.setIfInBounds_toArray, List.set_cons_zero, List.set_cons_succ])
  (refine wpL_calm (o := { dst := some 17, op := Go.Op.load 9 (Go.Operand.tmp 16), type := 9, pos := "law.go:31", after := #[{ on := 0, ground := Go.Ground.data }], guard := none }) (v := ?_) rfl (Or.inl ⟨by rfl, ?_⟩) ?_; rotate_left; (focus (intro w hSw; (try dsimp only at hSw); go_simp; (try (with_reducible rfl)); done)); try simp only [Act.put, List.setIfInBounds_toArray, List.set_cons_zero, List.set_cons_succ])
  (refine wpL_calm (o := { dst := some 18, op := Go.Op.fieldAddr 23 (Go.Operand.tmp 1) 1, type := 0, pos := "law.go:31", after := #[{ on := 8, ground := Go.Ground.gcOnly Go.Departure.lateStores }], guard := none }) (v := ?_) rfl (Or.inl ⟨by rfl, ?_⟩) ?_; rotate_left; (focus (intro w hSw; (try dsimp only at hSw); go_simp; (try (with_reducible rfl)); done)); try simp only [Act.put, List.setIfInBounds_toArray, List.set_cons_zero, List.set_cons_succ])
  (refine wpL_calm (o := { dst := some 19, op := Go.Op.load 3 (Go.Operand.tmp 18), type := 3, pos := "law.go:31", after := #[{ on := 2, ground := Go.Ground.data }, { on := 8, ground := Go.Ground.gcOnly Go.Departure.lateStores }], guard := none }) (v := ?_) rfl (Or.inl ⟨by rfl, ?_⟩) ?_; rotate_left; (focus (intro w hSw; (try dsimp only at hSw); go_simp; (try (with_reducible rfl)); done)); try simp only [Act.put, List.setIfInBounds_toArray, List.set_cons_zero, List.set_cons_succ])
  (refine wpL_calm (o := { dst := some 20, op := Go.Op.fieldAddr 23 (Go.Operand.tmp 1) 2, type := 0, pos := "law.go:31", after := #[{ on := 9, ground := Go.Ground.gcOnly Go.Departure.lateStores }], guard := none }) (v := ?_) rfl (Or.inl ⟨by rfl, ?_⟩) ?_; rotate_left; (focus (intro w hSw; (try dsimp only at hSw); go_simp; (try (with_reducible rfl)); done)); try simp only [Act.put, List.setIfInBounds_toArray, List.set_cons_zero, List.set_cons_succ])
  (refine wpL_calm (o := { dst := some 21, op := Go.Op.load 3 (Go.Operand.tmp 20), type := 3, pos := "law.go:31", after := #[{ on := 4, ground := Go.Ground.data }, { on := 9, ground := Go.Ground.gcOnly Go.Departure.lateStores }], guard := none }) (v := ?_) rfl (Or.inl ⟨by rfl, ?_⟩) ?_; rotate_left; (focus (intro w hSw; (try dsimp only at hSw); go_simp; (try (with_reducible rfl)); done)); try simp only [Act.put, List.setIfInBounds_toArray, List.set_cons_zero, List.set_cons_succ])
  (refine wpL_calm (o := { dst := some 22, op := Go.Op.fieldAddr 23 (Go.Operand.tmp 1) 3, type := 0, pos := "law.go:31", after := #[{ on := 10, ground := Go.Ground.gcOnly Go.Departure.lateStores }], guard := none }) (v := ?_) rfl (Or.inl ⟨by rfl, ?_⟩) ?_; rotate_left; (focus (intro w hSw; (try dsimp only at hSw); go_simp; (try (with_reducible rfl)); done)); try simp only [Act.put, List.setIfInBounds_toArray, List.set_cons_zero, List.set_cons_succ])
  (refine wpL_calm (o := { dst := some 23, op := Go.Op.load 9 (Go.Operand.tmp 22), type := 9, pos := "law.go:31", after := #[{ on := 6, ground := Go.Ground.data }, { on := 10, ground := Go.Ground.gcOnly Go.Departure.lateStores }], guard := none }) (v := ?_) rfl (Or.inl ⟨by rfl, ?_⟩) ?_; rotate_left; (focus (intro w hSw; (try dsimp only at hSw); go_simp; (try (with_reducible rfl)); done)); try simp only [Act.put, List.setIfInBounds_toArray, List.set_cons_zero, List.set_cons_succ])
  (refine wpL_calm (o := { dst := some 3, op := Go.Op.assign (Go.Operand.tmp 17), type := 9, pos := "law.go:31", after := #[{ on := 1, ground := Go.Ground.data }, { on := 0, ground := Go.Ground.phase }, { on := 1, ground := Go.Ground.phase }, { on := 2, ground := Go.Ground.textOnly Go.Departure.lateStores }, { on := 3, ground := Go.Ground.textOnly Go.Departure.lateStores }, { on := 4, ground := Go.Ground.textOnly Go.Departure.lateStores }, { on := 5, ground := Go.Ground.textOnly Go.Departure.lateStores }, { on := 6, ground := Go.Ground.textOnly Go.Departure.lateStores }, { on := 7, ground := Go.Ground.textOnly Go.Departure.lateStores }], guard := none }) (v := ?_) rfl (Or.inl ⟨by rfl, ?_⟩) ?_; rotate_left; (focus (intro w hSw; (try dsimp only at hSw); go_simp; (try (with_reducible rfl)); done)); try simp only [Act.put, List.setIfInBounds_toArray, List.set_cons_zero, List.set_cons_succ])
  (refine wpL_calm (o := { dst := some 4, op := Go.Op.assign (Go.Operand.tmp 19), type := 3, pos := "law.go:31", after := #[{ on := 3, ground := Go.Ground.data }, { on := 8, ground := Go.Ground.chain }, { on := 0, ground := Go.Ground.phase }, { on := 1, ground := Go.Ground.phase }, { on := 2, ground := Go.Ground.phase }, { on := 3, ground := Go.Ground.phase }, { on := 4, ground := Go.Ground.textOnly Go.Departure.lateStores }, { on := 5, ground := Go.Ground.textOnly Go.Departure.lateStores }, { on := 6, ground := Go.Ground.textOnly Go.Departure.lateStores }, { on := 7, ground := Go.Ground.textOnly Go.Departure.lateStores }, { on := 8, ground := Go.Ground.phase }], guard := none }) (v := ?_) rfl (Or.inl ⟨by rfl, ?_⟩) ?_; rotate_left; (focus (intro w hSw; (try dsimp only at hSw); go_simp; (try (with_reducible rfl)); done)); try simp only [Act.put, List.setIfInBounds_toArray, List.set_cons_zero, List.set_cons_succ])
  (refine wpL_calm (o := { dst := some 5, op := Go.Op.assign (Go.Operand.tmp 21), type := 3, pos := "law.go:31", after := #[{ on := 5, ground := Go.Ground.data }, { on := 9, ground := Go.Ground.chain }, { on := 0, ground := Go.Ground.phase }, { on := 1, ground := Go.Ground.phase }, { on := 2, ground := Go.Ground.phase }, { on := 3, ground := Go.Ground.phase }, { on := 4, ground := Go.Ground.phase }, { on := 5, ground := Go.Ground.phase }, { on := 6, ground := Go.Ground.textOnly Go.Departure.lateStores }, { on := 7, ground := Go.Ground.textOnly Go.Departure.lateStores }, { on := 8, ground := Go.Ground.phase }, { on := 9, ground := Go.Ground.phase }], guard := none }) (v := ?_) rfl (Or.inl ⟨by rfl, ?_⟩) ?_; rotate_left; (focus (intro w hSw; (try dsimp only at hSw); go_simp; (try (with_reducible rfl)); done)); try simp only [Act.put, List.setIfInBounds_toArray, List.set_cons_zero, List.set_cons_succ])
  (refine wpL_calm (o := { dst := some 6, op := Go.Op.assign (Go.Operand.tmp 23), type := 9, pos := "law.go:31", after := #[{ on := 7, ground := Go.Ground.data }, { on := 10, ground := Go.Ground.chain }, { on := 0, ground := Go.Ground.phase }, { on := 1, ground := Go.Ground.phase }, { on := 2, ground := Go.Ground.phase }, { on := 3, ground := Go.Ground.phase }, { on := 4, ground := Go.Ground.phase }, { on := 5, ground := Go.Ground.phase }, { on := 6, ground := Go.Ground.phase }, { on := 7, ground := Go.Ground.phase }, { on := 8, ground := Go.Ground.phase }, { on := 9, ground := Go.Ground.phase }, { on := 10, ground := Go.Ground.phase }], guard := none }) (v := ?_) rfl (Or.inl ⟨by rfl, ?_⟩) ?_; rotate_left; (focus (intro w hSw; (try dsimp only at hSw); go_simp; (try (with_reducible rfl)); done)); try simp only [Act.put, List.setIfInBounds_toArray, List.set_cons_zero, List.set_cons_succ])
  refine wpL_nil ?_
  refine NoPanic.normal ?_
  have B1d := B1.drew
  clear hc1 B1
  generalize World.drew w1 = w2 at *
  go_wp2_with fail
  refine (new_y w2).mono ?_
  rintro e w3 ⟨o, X3, rfl, hX3, few3, b3⟩
  have B3 := B1d.trans (b3.mono B1d.size)
  have hX3' : OrX w.heap.size w3 o X3 := hX3.weak B1d.size
  clear hX3 b3 B1d
  go_wp2_with fail
  refine (HST.out o X3 w3 (hG.below B3) hX3' (few3.mono (by omega))).mono ?_
  rintro e w4 ⟨X4, rfl, hX4, hS4, b4, K4⟩
  have B4 := B3.trans b4
  have few4 : FewX X4 1000000 := (hS4.few few3).mono (by omega)
  clear hX3' hS4 K4 b4 B3 HST
  obtain ⟨w5, HW5, hd5, b5⟩ := stored_dg w4 DA
  go_upto_region 6 with (refine wpList_store_row rfl _ _ _ rfl w4.heap.size DA rfl rfl 28 _ (heap_alloc_new _ _) (by rw [ZA]; kernel_rfl) (by rw [ZA, z32_sizeC]) OA ?_)
  rw [HW5.out]
  clear HW5
  have hX5 := hX4.below b5
  have hf5 : FreeX X4 w4.heap.size := hX4.free _ (Nat.le_refl _)
  have B5 := B4.trans (b5.mono B4.size)
  clear hX4 b5 B4
  generalize w4.heap.size = q8 at *
  go_wp2_with fail
  refine (HCK.out o X4 w5 (hG.below B5) hX5 few4).mono ?_
  rintro e w6 ⟨rfl, b6, k6⟩
  have hd6 := k6 _ _ hd5 hf5
  have B6 := B5.trans b6
  clear hX5 hd5 b6 k6 B5 hf5 few4
  go_upto_region 14 with fail
  have hl6 := (Array.getElem?_eq_some_iff.1 hd6).1
  have hadd1 := HA1.out
  have hadd2 := HA2.out
  have wr0 : IntKind.u8.wrap 0 = 0 := by decide
  have wr1 : IntKind.u8.wrap 1 = 1 := by decide
  have hcv := conv_twoW00 ((w6.alloc (.cells #[.int .u8 0, .int .u8 0] 5)).drew) w6.heap.size (heap_alloc_new w6 _)
  have B6d := B6.drew
  have hd6d : w6.drew.heap[q8]? = some (.cells DA 28 (0, 0)) := hd6
  have b7 := (Below.refl w6.drew.heap.size w6.drew).alloc (Nat.le_refl _) (.cells #[.int .u8 0, .int .u8 0] 5)
  refine wp_region_lin_all (S := (fun w' => w'.heap[q8]? = some (.cells DA 28 (0, 0)))) [(0, true), (1, true), (2, true), (3, true), (4, true), (5, true), (6, true), (7, true), (11, true), (8, false), (9, false), (10, true), (12, true), (13, false), (14, true), (15, true), (16, true)] (by kernel_rfl) (by kernel_rfl) rfl (by kernel_rfl) ?_ (fun hHeld => ?_)
  · (try dsimp only); exact hd6
  (refine wpL_calm (o := { dst := some 84, op := Go.Op.move (Go.Operand.tmp 9), type := 29, pos := "law.go:48", after := #[], guard := none }) (v := ?_) rfl (Or.inl ⟨by rfl, ?_⟩) ?_; rotate_left; (focus (intro w hSw; (try dsimp only at hSw); go_simp; (try (with_reducible rfl)); done)); try simp only [Act.put, List.setIfInBounds_toArray, List.set_cons_zero, List.set_cons_succ])
  (refine wpL_calm (o := { dst := some 85, op := Go.Op.binOp Go.BinOp.neq 29 (Go.Operand.tmp 84) (Go.Operand.const (Go.Value.int Go.IntKind.i64 0)) 29, type := 4, pos := "law.go:48", after := #[{ on := 0, ground := Go.Ground.data }], guard := none }) (v := ?_) rfl (Or.inl ⟨by rfl, ?_⟩) ?_; rotate_left; (focus (intro w hSw; (try dsimp only at hSw); go_simp; (try (with_reducible rfl)); done)); try simp only [Act.put, List.setIfInBounds_toArray, List.set_cons_zero, List.set_cons_succ])
  (refine wpL_calm (o := { dst := some 86, op := Go.Op.move (Go.Operand.tmp 85), type := 4, pos := "law.go:48", after := #[{ on := 1, ground := Go.Ground.data }], guard := none }) (v := ?_) rfl (Or.inl ⟨by rfl, ?_⟩) ?_; rotate_left; (focus (intro w hSw; (try dsimp only at hSw); go_simp; (try (with_reducible rfl)); done)); try simp only [Act.put, List.setIfInBounds_toArray, List.set_cons_zero, List.set_cons_succ])
  refine wpL_calm (o := { dst := some 87, op := Go.Op.load 28 (Go.Operand.tmp 8), type := 28, pos := "law.go:48", after := #[{ on := 2, ground := Go.Ground.guard }], guard := some (2, false) }) rfl (yieldsIf_load_mid (by rfl) _ _ rfl q8 0 rfl BA _ (fun _ h => range_dg h HEA.out) Tryd.underlying28 rfl (by rw [HLA.out]; kernel_rfl)) ?_; rw [HEA.out]
  try simp only [Act.put, List.setIfInBounds_toArray, List.set_cons_zero, List.set_cons_succ]
  first | (refine wpL_calm (o := { dst := some 88, op := Go.Op.move (Go.Operand.tmp 4), type := 3, pos := "law.go:48", after := #[{ on := 2, ground := Go.Ground.guard }], guard := some (2, false) }) (v := ?_) rfl (Or.inl ⟨by rfl, ?_⟩) ?_; rotate_left; (focus (intro w hSw; (try dsimp only at hSw); go_simp; (try (with_reducible rfl)); done)); try simp only [Act.put, List.setIfInBounds_toArray, List.set_cons_zero, List.set_cons_succ]) | (refine wpL_calm (o := { dst := some 88, op := Go.Op.move (Go.Operand.tmp 4), type := 3, pos := "law.go:48", after := #[{ on := 2, ground := Go.Ground.guard }], guard := some (2, false) }) (v := undef) rfl (Or.inr ⟨by rfl, rfl⟩) ?_; try simp only [Act.put, List.setIfInBounds_toArray, List.set_cons_zero, List.set_cons_succ])
  first | (refine wpL_calm (o := { dst := some 89, op := Go.Op.convert 3 5 (Go.Operand.tmp 88), type := 5, pos := "law.go:48", after := #[{ on := 4, ground := Go.Ground.data }, { on := 2, ground := Go.Ground.guard }], guard := some (2, false) }) (v := ?_) rfl (Or.inl ⟨by rfl, ?_⟩) ?_; rotate_left; (focus (intro w hSw; (try dsimp only at hSw); go_simp; (try (with_reducible rfl)); done)); try simp only [Act.put, List.setIfInBounds_toArray, List.set_cons_zero, List.set_cons_succ]) | (refine wpL_calm (o := { dst := some 89, op := Go.Op.convert 3 5 (Go.Operand.tmp 88), type := 5, pos := "law.go:48", after := #[{ on := 4, ground := Go.Ground.data }, { on := 2, ground := Go.Ground.guard }], guard := some (2, false) }) (v := undef) rfl (Or.inr ⟨by rfl, rfl⟩) ?_; try simp only [Act.put, List.setIfInBounds_toArray, List.set_cons_zero, List.set_cons_succ])
  first | (refine wpL_calm (o := { dst := some 90, op := Go.Op.move (Go.Operand.tmp 5), type := 3, pos := "law.go:48", after := #[{ on := 2, ground := Go.Ground.guard }], guard := some (2, false) }) (v := ?_) rfl (Or.inl ⟨by rfl, ?_⟩) ?_; rotate_left; (focus (intro w hSw; (try dsimp only at hSw); go_simp; (try (with_reducible rfl)); done)); try simp only [Act.put, List.setIfInBounds_toArray, List.set_cons_zero, List.set_cons_succ]) | (refine wpL_calm (o := { dst := some 90, op := Go.Op.move (Go.Operand.tmp 5), type := 3, pos := "law.go:48", after := #[{ on := 2, ground := Go.Ground.guard }], guard := some (2, false) }) (v := undef) rfl (Or.inr ⟨by rfl, rfl⟩) ?_; try simp only [Act.put, List.setIfInBounds_toArray, List.set_cons_zero, List.set_cons_succ])
  first | (refine wpL_calm (o := { dst := some 91, op := Go.Op.convert 3 5 (Go.Operand.tmp 90), type := 5, pos := "law.go:48", after := #[{ on := 6, ground := Go.Ground.data }, { on := 2, ground := Go.Ground.guard }], guard := some (2, false) }) (v := ?_) rfl (Or.inl ⟨by rfl, ?_⟩) ?_; rotate_left; (focus (intro w hSw; (try dsimp only at hSw); go_simp; (try (with_reducible rfl)); done)); try simp only [Act.put, List.setIfInBounds_toArray, List.set_cons_zero, List.set_cons_succ]) | (refine wpL_calm (o := { dst := some 91, op := Go.Op.convert 3 5 (Go.Operand.tmp 90), type := 5, pos := "law.go:48", after := #[{ on := 6, ground := Go.Ground.data }, { on := 2, ground := Go.Ground.guard }], guard := some (2, false) }) (v := undef) rfl (Or.inr ⟨by rfl, rfl⟩) ?_; try simp only [Act.put, List.setIfInBounds_toArray, List.set_cons_zero, List.set_cons_succ])
  first | (refine wpL_calm (o := { dst := some 95, op := Go.Op.move (Go.Operand.tmp 3), type := 9, pos := "law.go:48", after := #[{ on := 2, ground := Go.Ground.guard }], guard := some (2, false) }) (v := ?_) rfl (Or.inl ⟨by rfl, ?_⟩) ?_; rotate_left; (focus (intro w hSw; (try dsimp only at hSw); go_simp; (try (with_reducible rfl)); done)); try simp only [Act.put, List.setIfInBounds_toArray, List.set_cons_zero, List.set_cons_succ]) | (refine wpL_calm (o := { dst := some 95, op := Go.Op.move (Go.Operand.tmp 3), type := 9, pos := "law.go:48", after := #[{ on := 2, ground := Go.Ground.guard }], guard := some (2, false) }) (v := undef) rfl (Or.inr ⟨by rfl, rfl⟩) ?_; try simp only [Act.put, List.setIfInBounds_toArray, List.set_cons_zero, List.set_cons_succ])
  refine wpL_loud1 (o := { dst := some 92, op := Go.Op.buildSlice 35 2 #[(0, Go.Operand.tmp 89), (1, Go.Operand.tmp 91)], type := 35, pos := "law.go:48", after := #[{ on := 5, ground := Go.Ground.data }, { on := 7, ground := Go.Ground.data }, { on := 2, ground := Go.Ground.guard }], guard := some (2, false) }) rfl (fun K hK => ?_)
  go_simp
  refine hK.out _ _ ?_ (fun hHeld => ?_)
  · (try dsimp only); exact (b7.block q8 hl6).trans hd6d
  clear hK K
  try simp only [Act.put, List.setIfInBounds_toArray, List.set_cons_zero, List.set_cons_succ]
  refine wpL_loud1 (o := { dst := some 93, op := Go.Op.convert 35 9 (Go.Operand.tmp 92), type := 9, pos := "law.go:48", after := #[{ on := 8, ground := Go.Ground.data }, { on := 2, ground := Go.Ground.guard }], guard := some (2, false) }) rfl (fun K hK => ?_)
  go_simp
  refine hK.out _ _ ?_ (fun hHeld => ?_)
  · (try dsimp only); exact (b7.block q8 hl6).trans hd6d
  clear hK K
  try simp only [Act.put, List.setIfInBounds_toArray, List.set_cons_zero, List.set_cons_succ]
  first | (refine wpL_calm (o := { dst := some 94, op := Go.Op.binOp Go.BinOp.add 9 (Go.Operand.const (Go.Value.string { data := #[115, 116, 97, 114, 116] })) (Go.Operand.tmp 93) 9, type := 9, pos := "law.go:48", after := #[{ on := 9, ground := Go.Ground.data }, { on := 2, ground := Go.Ground.guard }], guard := some (2, false) }) (v := ?_) rfl (Or.inl ⟨by rfl, ?_⟩) ?_; rotate_left; (focus (intro w hSw; (try dsimp only at hSw); go_simp; (try (with_reducible rfl)); done)); try simp only [Act.put, List.setIfInBounds_toArray, List.set_cons_zero, List.set_cons_succ]) | (refine wpL_calm (o := { dst := some 94, op := Go.Op.binOp Go.BinOp.add 9 (Go.Operand.const (Go.Value.string { data := #[115, 116, 97, 114, 116] })) (Go.Operand.tmp 93) 9, type := 9, pos := "law.go:48", after := #[{ on := 9, ground := Go.Ground.data }, { on := 2, ground := Go.Ground.guard }], guard := some (2, false) }) (v := undef) rfl (Or.inr ⟨by rfl, rfl⟩) ?_; try simp only [Act.put, List.setIfInBounds_toArray, List.set_cons_zero, List.set_cons_succ])
  first | (refine wpL_calm (o := { dst := some 96, op := Go.Op.binOp Go.BinOp.add 9 (Go.Operand.tmp 94) (Go.Operand.tmp 95) 9, type := 9, pos := "law.go:48", after := #[{ on := 10, ground := Go.Ground.data }, { on := 11, ground := Go.Ground.data }, { on := 2, ground := Go.Ground.guard }], guard := some (2, false) }) (v := ?_) rfl (Or.inl ⟨by rfl, ?_⟩) ?_; rotate_left; (focus (intro w hSw; (try dsimp only at hSw); go_simp; (try (with_reducible rfl)); done)); try simp only [Act.put, List.setIfInBounds_toArray, List.set_cons_zero, List.set_cons_succ]) | (refine wpL_calm (o := { dst := some 96, op := Go.Op.binOp Go.BinOp.add 9 (Go.Operand.tmp 94) (Go.Operand.tmp 95) 9, type := 9, pos := "law.go:48", after := #[{ on := 10, ground := Go.Ground.data }, { on := 11, ground := Go.Ground.data }, { on := 2, ground := Go.Ground.guard }], guard := some (2, false) }) (v := undef) rfl (Or.inr ⟨by rfl, rfl⟩) ?_; try simp only [Act.put, List.setIfInBounds_toArray, List.set_cons_zero, List.set_cons_succ])
  refine wpL_loud1 (o := { dst := some 97, op := Go.Op.call { callee := Go.Callee.value (Go.Operand.func 10), args := #[Go.Operand.tmp 96], argTypes := #[9] }, type := 28, pos := "law.go:48", after := #[{ on := 12, ground := Go.Ground.data }, { on := 2, ground := Go.Ground.chain }, { on := 2, ground := Go.Ground.guard }], guard := some (2, false) }) rfl (fun K hK => ?_)
  (go_simp; go_at_call 10; refine (HSA.out _ (hG.below (B6d.trans (b7.mono B6d.size)))).mono ?_; rintro e w8 ⟨rfl, b8⟩)
  try go_wp2_with fail
  refine hK.out _ _ ?_ (fun hHeld => ?_)
  · (try dsimp only); exact (b8.block q8 (Nat.lt_of_lt_of_le hl6 b7.size)).trans ((b7.block q8 hl6).trans hd6d)
  clear hK K
  try simp only [Act.put, List.setIfInBounds_toArray, List.set_cons_zero, List.set_cons_succ]
  first | (refine wpL_calm (o := { dst := some 98, op := Go.Op.binOp Go.BinOp.neq 28 (Go.Operand.tmp 87) (Go.Operand.tmp 97) 28, type := 4, pos := "law.go:48", after := #[{ on := 3, ground := Go.Ground.data }, { on := 13, ground := Go.Ground.data }, { on := 2, ground := Go.Ground.guard }], guard := some (2, false) }) (v := ?_) rfl (Or.inl ⟨by rfl, ?_⟩) ?_; rotate_left; (focus (intro w hSw; (try dsimp only at hSw); go_simp; (try (with_reducible rfl)); done)); try simp only [Act.put, List.setIfInBounds_toArray, List.set_cons_zero, List.set_cons_succ]) | (refine wpL_calm (o := { dst := some 98, op := Go.Op.binOp Go.BinOp.neq 28 (Go.Operand.tmp 87) (Go.Operand.tmp 97) 28, type := 4, pos := "law.go:48", after := #[{ on := 3, ground := Go.Ground.data }, { on := 13, ground := Go.Ground.data }, { on := 2, ground := Go.Ground.guard }], guard := some (2, false) }) (v := undef) rfl (Or.inr ⟨by rfl, rfl⟩) ?_; try simp only [Act.put, List.setIfInBounds_toArray, List.set_cons_zero, List.set_cons_succ])
  (refine wpL_calm (o := { dst := some 99, op := Go.Op.pick (Go.Operand.tmp 86) (Go.Operand.const (Go.Value.bool true)) (Go.Operand.tmp 98), type := 4, pos := "law.go:48", after := #[{ on := 2, ground := Go.Ground.data }, { on := 14, ground := Go.Ground.data }], guard := none }) (v := ?_) rfl (Or.inl ⟨by rfl, ?_⟩) ?_; rotate_left; (focus (intro w hSw; (try dsimp only at hSw); go_simp; (try (with_reducible rfl)); done)); try simp only [Act.put, List.setIfInBounds_toArray, List.set_cons_zero, List.set_cons_succ])
  (refine wpL_calm (o := { dst := some 83, op := Go.Op.assign (Go.Operand.tmp 99), type := 4, pos := "law.go:48", after := #[{ on := 15, ground := Go.Ground.data }, { on := 13, ground := Go.Ground.chain }], guard := none }) (v := ?_) rfl (Or.inl ⟨by rfl, ?_⟩) ?_; rotate_left; (focus (intro w hSw; (try dsimp only at hSw); go_simp; (try (with_reducible rfl)); done)); try simp only [Act.put, List.setIfInBounds_toArray, List.set_cons_zero, List.set_cons_succ])
  refine wpL_nil ?_
  refine NoPanic.normal ?_
  have B8 := (B6d.trans (b7.mono B6d.size)).trans (b8.mono (B6d.trans (b7.mono B6d.size)).size)
  clear B6 hd6 hd6d b7 b8 hadd1 hadd2 hcv B6d hl6
  by_cases hk32 : k.size = 32
  · as_aux_lemma =>
    obtain ⟨e1, e2⟩ := chk_yes k hk32
    rw [e1, e2]
    have tk : ((k.size : Int) != 32) = false := by simp; omega
    have hadd := key_add k hk32
    have HSK := Lib.hid (key_sum k hk32)
    have HCV := Lib.hid (conv_dg (sumL (keyT k)) (sumL_len _))
    have HCX := Lib.hid (fun w' h1 h2 => check_x w.heap.size none none k w' h1 hgf hgk h2 (FewX.none _) hk32)
    obtain ⟨zk, ok⟩ := dig_ok' (keyT k)
    generalize digA (sumL (keyT k)) = DK at *
    generalize sB (sumL (keyT k)) = sK at *
    generalize sB (keyT k) = tK at *
    go_wp2_with fail
    refine (HSK.out _ (hG.below B8)).mono ?_
    rintro e x1 ⟨rfl, y1⟩
    have C1 := B8.trans (y1.mono B8.size)
    obtain ⟨x2, HX2, hk2, y2⟩ := stored_dg x1 DK
    go_upto_region 19 with (refine wpList_store_row rfl _ _ _ rfl x1.heap.size DK rfl rfl 28 _ (heap_alloc_new _ _) (by rw [zk]; kernel_rfl) (by rw [zk, z32_sizeC]) ok ?_)
    rw [HX2.out]
    clear HX2
    have C2 := C1.trans (y2.mono C1.size)
    clear y1 y2 C1
    generalize x1.heap.size = q13 at *
    go_wp2_with fail
    refine (HCX.out _ (hG.below C2) C2.size).mono ?_
    rintro e x3 ⟨X', rfl, hX', _, y3, K3⟩
    have hk3 := K3.keep _ _ hk2 (FreeX.none _)
    have C3 := C2.trans y3
    clear hk2 y3 K3 C2 hX'
    go_wp2_with fail
    refine (awake14 _ (hG.below C3)).mono ?_
    rintro e x4 ⟨rfl, y4⟩
    have hcv := HCV.out x4 q13 ((y4.block q13 (Array.getElem?_eq_some_iff.1 hk3).1).trans hk3)
    go_wp2_with fail
    go_ret
    exact ⟨rfl, C3.trans (y4.mono C3.size)⟩
  · as_aux_lemma =>
    obtain ⟨e1, e2⟩ := chk_no k hk32
    rw [e1, e2]
    have tk : ((k.size : Int) != 32) = true := by simp; omega
    go_wp2_with fail
    refine (awake14 _ (hG.below B8)).mono ?_
    rintro e x4 ⟨rfl, y4⟩
    go_wp2_with fail
    go_ret
    exact ⟨rfl, B8.trans (y4.mono B8.size)⟩
set_option maxRecDepth 100000 in
set_option maxHeartbeats 8000000 in
theorem chainSums_ok01 (s k : ByteArray) (w : World) (hG : Gl w) (hs : s.size ≤ 1000) (hk : k.size ≤ 1000) (h64 : s.size = 64) : Calls Tryd.prog 3 #[.agg #[.string s, .int .i64 0, .int .i64 1, .string k]] w fun e w' => e = .returned (.bool true) ∧ Below w.heap.size w w' := by
  have hz := zero_dig
  have hb := build_z32
  have hnz := neq_z32
  have hgf := hG.sf
  have hgk := hG.sk
  have t1 : ¬ (1000 : Int) < (s.size : Int) := by omega
  have t2 : ¬ (1000 : Int) < (k.size : Int) := by omega
  have ts : ((s.size : Int) != 64) = false := by simp; omega
  have has : (sB [0, 1]).size = 2 := by with_unfolding_all rfl
  have HST := Lib.hid (fun o X w' h1 h2 h3 => start_x01 w.heap.size o X s w' h1 hgf hgk h2 h3 h64)
  have HA1 : Hid (∀ V : World, (Op.stringOp .add (⟨#[115, 116, 97, 114, 116]⟩ : ByteArray) (sB [0, 1])).run Tryd.prog V = .ok (.string (stB ++ sB [0, 1])) V) := Lib.hid (fun V => by with_unfolding_all exact run_string_add_sum V stB (sB [0, 1]) (by rw [stB_size, has]; omega))
  have HA2 : Hid (∀ V : World, (Op.stringOp .add (stB ++ sB [0, 1]) s).run Tryd.prog V = .ok (.string (sB (startT 0 1 s))) V) := Lib.hid (fun V => by rw [← startT_eq]; exact run_string_add_sum V _ _ (by rw [ByteArray.size_append, stB_size, has, h64]; omega))
  have HSA : Hid (∀ w, Gl w → Calls Tryd.prog 10 #[.string (sB (startT 0 1 s))] w fun e w' => e = .returned (.agg (digA (sumL (startT 0 1 s)))) ∧ Below w.heap.size w w') := Lib.hid (fun w hw => by
    have h1 := sum_any (sB (startT 0 1 s)) w (by rw [← startT_eq, ByteArray.size_append, ByteArray.size_append, stB_size, has, h64]; omega) hw
    rw [sB_list' (startT 0 1 s)] at h1
    exact h1)
  obtain ⟨EA, LA, ZA, OA⟩ := dg_parts (sumL (startT 0 1 s)) (sumL_len _)
  have heqA := neq_dig2 (sumL (startT 0 1 s)) (sumL (startT 0 1 s)) (sumL_len _) (sumL_len _)
  simp only [beq_self_eq_true, Bool.not_true] at heqA
  have HEA := Lib.hid EA
  have HLA := Lib.hid LA
  clear EA LA has
  generalize bv (sumL (startT 0 1 s)) = BA at *
  generalize digA (sumL (startT 0 1 s)) = DA at *
  generalize sB (startT 0 1 s) = tA at *
  generalize hnA : stB ++ sB [0, 1] = nA at *
  clear hnA
  have HCK := Lib.hid (fun o X w' h1 h2 h3 => check_u w.heap.size o X k w' h1 hgf hgk h2 h3)
  obtain ⟨w1, HW1, hc1, B1⟩ := made_four w s k 0 1
  go_enter Tryd.func3, Tryd.ntmps3
  go_upto_region 1 with fail
  rw [HW1.out]
  clear HW1
  refine wp_region_lin (S := (fun w' => w'.cell? ⟨w.heap.size, 0, none⟩ = some (.string s) ∧ w'.cell? ⟨w.heap.size, 1, none⟩ = some (.int .i64 0) ∧ w'.cell? ⟨w.heap.size, 2, none⟩ = some (.int .i64 1) ∧ w'.cell? ⟨w.heap.size, 3, none⟩ = some (.string k))) [(0, true), (1, true), (2, true), (3, true), (4, true), (5, true), (6, true), (7, true), (8, true), (9, true), (10, true), (11, true)] (by kernel_rfl) (by kernel_rfl) rfl (by kernel_rfl) ?_ (fun hHeld => ?_)
  · (try dsimp only); exact hc1
  (refine wpL_calm (o := { dst := some 16, op := Go.Op.fieldAddr 23 (Go.Operand.tmp 1) 0, type := 0, pos := "law.go:31", after := #[], guard := none }) (v := ?_) rfl (Or.inl ⟨by rfl, ?_⟩) ?_; rotate_left; (focus (intro w hSw; (try dsimp only at hSw); go_simp; (try (with_reducible rfl)); done)); try simp only [Act.put, List.setIfInBounds_toArray, List.set_cons_zero, List.set_cons_succ])
  (refine wpL_calm (o := { dst := some 17, op := Go.Op.load 9 (Go.Operand.tmp 16), type := 9, pos := "law.go:31", after := #[{ on := 0, ground := Go.Ground.data }], guard := none }) (v := ?_) rfl (Or.inl ⟨by rfl, ?_⟩) ?_; rotate_left; (focus (intro w hSw; (try dsimp only at hSw); go_simp; (try (with_reducible rfl)); done)); try simp only [Act.put, List.setIfInBounds_toArray, List.set_cons_zero, List.set_cons_succ])
  (refine wpL_calm (o := { dst := some 18, op := Go.Op.fieldAddr 23 (Go.Operand.tmp 1) 1, type := 0, pos := "law.go:31", after := #[{ on := 8, ground := Go.Ground.gcOnly Go.Departure.lateStores }], guard := none }) (v := ?_) rfl (Or.inl ⟨by rfl, ?_⟩) ?_; rotate_left; (focus (intro w hSw; (try dsimp only at hSw); go_simp; (try (with_reducible rfl)); done)); try simp only [Act.put, List.setIfInBounds_toArray, List.set_cons_zero, List.set_cons_succ])
  (refine wpL_calm (o := { dst := some 19, op := Go.Op.load 3 (Go.Operand.tmp 18), type := 3, pos := "law.go:31", after := #[{ on := 2, ground := Go.Ground.data }, { on := 8, ground := Go.Ground.gcOnly Go.Departure.lateStores }], guard := none }) (v := ?_) rfl (Or.inl ⟨by rfl, ?_⟩) ?_; rotate_left; (focus (intro w hSw; (try dsimp only at hSw); go_simp; (try (with_reducible rfl)); done)); try simp only [Act.put, List.setIfInBounds_toArray, List.set_cons_zero, List.set_cons_succ])
  (refine wpL_calm (o := { dst := some 20, op := Go.Op.fieldAddr 23 (Go.Operand.tmp 1) 2, type := 0, pos := "law.go:31", after := #[{ on := 9, ground := Go.Ground.gcOnly Go.Departure.lateStores }], guard := none }) (v := ?_) rfl (Or.inl ⟨by rfl, ?_⟩) ?_; rotate_left; (focus (intro w hSw; (try dsimp only at hSw); go_simp; (try (with_reducible rfl)); done)); try simp only [Act.put, List.setIfInBounds_toArray, List.set_cons_zero, List.set_cons_succ])
  (refine wpL_calm (o := { dst := some 21, op := Go.Op.load 3 (Go.Operand.tmp 20), type := 3, pos := "law.go:31", after := #[{ on := 4, ground := Go.Ground.data }, { on := 9, ground := Go.Ground.gcOnly Go.Departure.lateStores }], guard := none }) (v := ?_) rfl (Or.inl ⟨by rfl, ?_⟩) ?_; rotate_left; (focus (intro w hSw; (try dsimp only at hSw); go_simp; (try (with_reducible rfl)); done)); try simp only [Act.put, List.setIfInBounds_toArray, List.set_cons_zero, List.set_cons_succ])
  (refine wpL_calm (o := { dst := some 22, op := Go.Op.fieldAddr 23 (Go.Operand.tmp 1) 3, type := 0, pos := "law.go:31", after := #[{ on := 10, ground := Go.Ground.gcOnly Go.Departure.lateStores }], guard := none }) (v := ?_) rfl (Or.inl ⟨by rfl, ?_⟩) ?_; rotate_left; (focus (intro w hSw; (try dsimp only at hSw); go_simp; (try (with_reducible rfl)); done)); try simp only [Act.put, List.setIfInBounds_toArray, List.set_cons_zero, List.set_cons_succ])
  (refine wpL_calm (o := { dst := some 23, op := Go.Op.load 9 (Go.Operand.tmp 22), type := 9, pos := "law.go:31", after := #[{ on := 6, ground := Go.Ground.data }, { on := 10, ground := Go.Ground.gcOnly Go.Departure.lateStores }], guard := none }) (v := ?_) rfl (Or.inl ⟨by rfl, ?_⟩) ?_; rotate_left; (focus (intro w hSw; (try dsimp only at hSw); go_simp; (try (with_reducible rfl)); done)); try simp only [Act.put, List.setIfInBounds_toArray, List.set_cons_zero, List.set_cons_succ])
  (refine wpL_calm (o := { dst := some 3, op := Go.Op.assign (Go.Operand.tmp 17), type := 9, pos := "law.go:31", after := #[{ on := 1, ground := Go.Ground.data }, { on := 0, ground := Go.Ground.phase }, { on := 1, ground := Go.Ground.phase }, { on := 2, ground := Go.Ground.textOnly Go.Departure.lateStores }, { on := 3, ground := Go.Ground.textOnly Go.Departure.lateStores }, { on := 4, ground := Go.Ground.textOnly Go.Departure.lateStores }, { on := 5, ground := Go.Ground.textOnly Go.Departure.lateStores }, { on := 6, ground := Go.Ground.textOnly Go.Departure.lateStores }, { on := 7, ground := Go.Ground.textOnly Go.Departure.lateStores }], guard := none }) (v := ?_) rfl (Or.inl ⟨by rfl, ?_⟩) ?_; rotate_left; (focus (intro w hSw; (try dsimp only at hSw); go_simp; (try (with_reducible rfl)); done)); try simp only [Act.put, List.setIfInBounds_toArray, List.set_cons_zero, List.set_cons_succ])
  (refine wpL_calm (o := { dst := some 4, op := Go.Op.assign (Go.Operand.tmp 19), type := 3, pos := "law.go:31", after := #[{ on := 3, ground := Go.Ground.data }, { on := 8, ground := Go.Ground.chain }, { on := 0, ground := Go.Ground.phase }, { on := 1, ground := Go.Ground.phase }, { on := 2, ground := Go.Ground.phase }, { on := 3, ground := Go.Ground.phase }, { on := 4, ground := Go.Ground.textOnly Go.Departure.lateStores }, { on := 5, ground := Go.Ground.textOnly Go.Departure.lateStores }, { on := 6, ground := Go.Ground.textOnly Go.Departure.lateStores }, { on := 7, ground := Go.Ground.textOnly Go.Departure.lateStores }, { on := 8, ground := Go.Ground.phase }], guard := none }) (v := ?_) rfl (Or.inl ⟨by rfl, ?_⟩) ?_; rotate_left; (focus (intro w hSw; (try dsimp only at hSw); go_simp; (try (with_reducible rfl)); done)); try simp only [Act.put, List.setIfInBounds_toArray, List.set_cons_zero, List.set_cons_succ])
  (refine wpL_calm (o := { dst := some 5, op := Go.Op.assign (Go.Operand.tmp 21), type := 3, pos := "law.go:31", after := #[{ on := 5, ground := Go.Ground.data }, { on := 9, ground := Go.Ground.chain }, { on := 0, ground := Go.Ground.phase }, { on := 1, ground := Go.Ground.phase }, { on := 2, ground := Go.Ground.phase }, { on := 3, ground := Go.Ground.phase }, { on := 4, ground := Go.Ground.phase }, { on := 5, ground := Go.Ground.phase }, { on := 6, ground := Go.Ground.textOnly Go.Departure.lateStores }, { on := 7, ground := Go.Ground.textOnly Go.Departure.lateStores }, { on := 8, ground := Go.Ground.phase }, { on := 9, ground := Go.Ground.phase }], guard := none }) (v := ?_) rfl (Or.inl ⟨by rfl, ?_⟩) ?_; rotate_left; (focus (intro w hSw; (try dsimp only at hSw); go_simp; (try (with_reducible rfl)); done)); try simp only [Act.put, List.setIfInBounds_toArray, List.set_cons_zero, List.set_cons_succ])
  (refine wpL_calm (o := { dst := some 6, op := Go.Op.assign (Go.Operand.tmp 23), type := 9, pos := "law.go:31", after := #[{ on := 7, ground := Go.Ground.data }, { on := 10, ground := Go.Ground.chain }, { on := 0, ground := Go.Ground.phase }, { on := 1, ground := Go.Ground.phase }, { on := 2, ground := Go.Ground.phase }, { on := 3, ground := Go.Ground.phase }, { on := 4, ground := Go.Ground.phase }, { on := 5, ground := Go.Ground.phase }, { on := 6, ground := Go.Ground.phase }, { on := 7, ground := Go.Ground.phase }, { on := 8, ground := Go.Ground.phase }, { on := 9, ground := Go.Ground.phase }, { on := 10, ground := Go.Ground.phase }], guard := none }) (v := ?_) rfl (Or.inl ⟨by rfl, ?_⟩) ?_; rotate_left; (focus (intro w hSw; (try dsimp only at hSw); go_simp; (try (with_reducible rfl)); done)); try simp only [Act.put, List.setIfInBounds_toArray, List.set_cons_zero, List.set_cons_succ])
  refine wpL_nil ?_
  refine NoPanic.normal ?_
  have B1d := B1.drew
  clear hc1 B1
  generalize World.drew w1 = w2 at *
  go_wp2_with fail
  refine (new_y w2).mono ?_
  rintro e w3 ⟨o, X3, rfl, hX3, few3, b3⟩
  have B3 := B1d.trans (b3.mono B1d.size)
  have hX3' : OrX w.heap.size w3 o X3 := hX3.weak B1d.size
  clear hX3 b3 B1d
  go_wp2_with fail
  refine (HST.out o X3 w3 (hG.below B3) hX3' (few3.mono (by omega))).mono ?_
  rintro e w4 ⟨X4, rfl, hX4, hS4, b4, K4⟩
  have B4 := B3.trans b4
  have few4 : FewX X4 1000000 := (hS4.few few3).mono (by omega)
  clear hX3' hS4 K4 b4 B3 HST
  obtain ⟨w5, HW5, hd5, b5⟩ := stored_dg w4 DA
  go_upto_region 6 with (refine wpList_store_row rfl _ _ _ rfl w4.heap.size DA rfl rfl 28 _ (heap_alloc_new _ _) (by rw [ZA]; kernel_rfl) (by rw [ZA, z32_sizeC]) OA ?_)
  rw [HW5.out]
  clear HW5
  have hX5 := hX4.below b5
  have hf5 : FreeX X4 w4.heap.size := hX4.free _ (Nat.le_refl _)
  have B5 := B4.trans (b5.mono B4.size)
  clear hX4 b5 B4
  generalize w4.heap.size = q8 at *
  go_wp2_with fail
  refine (HCK.out o X4 w5 (hG.below B5) hX5 few4).mono ?_
  rintro e w6 ⟨rfl, b6, k6⟩
  have hd6 := k6 _ _ hd5 hf5
  have B6 := B5.trans b6
  clear hX5 hd5 b6 k6 B5 hf5 few4
  go_upto_region 14 with fail
  have hl6 := (Array.getElem?_eq_some_iff.1 hd6).1
  have hadd1 := HA1.out
  have hadd2 := HA2.out
  have wr0 : IntKind.u8.wrap 0 = 0 := by decide
  have wr1 : IntKind.u8.wrap 1 = 1 := by decide
  have hcv := conv_twoW01 ((w6.alloc (.cells #[.int .u8 0, .int .u8 1] 5)).drew) w6.heap.size (heap_alloc_new w6 _)
  have B6d := B6.drew
  have hd6d : w6.drew.heap[q8]? = some (.cells DA 28 (0, 0)) := hd6
  have b7 := (Below.refl w6.drew.heap.size w6.drew).alloc (Nat.le_refl _) (.cells #[.int .u8 0, .int .u8 1] 5)
  refine wp_region_lin_all (S := (fun w' => w'.heap[q8]? = some (.cells DA 28 (0, 0)))) [(0, true), (1, true), (2, true), (3, true), (4, true), (5, true), (6, true), (7, true), (11, true), (8, false), (9, false), (10, true), (12, true), (13, false), (14, true), (15, true), (16, true)] (by kernel_rfl) (by kernel_rfl) rfl (by kernel_rfl) ?_ (fun hHeld => ?_)
  · (try dsimp only); exact hd6
  (refine wpL_calm (o := { dst := some 84, op := Go.Op.move (Go.Operand.tmp 9), type := 29, pos := "law.go:48", after := #[], guard := none }) (v := ?_) rfl (Or.inl ⟨by rfl, ?_⟩) ?_; rotate_left; (focus (intro w hSw; (try dsimp only at hSw); go_simp; (try (with_reducible rfl)); done)); try simp only [Act.put, List.setIfInBounds_toArray, List.set_cons_zero, List.set_cons_succ])
  (refine wpL_calm (o := { dst := some 85, op := Go.Op.binOp Go.BinOp.neq 29 (Go.Operand.tmp 84) (Go.Operand.const (Go.Value.int Go.IntKind.i64 0)) 29, type := 4, pos := "law.go:48", after := #[{ on := 0, ground := Go.Ground.data }], guard := none }) (v := ?_) rfl (Or.inl ⟨by rfl, ?_⟩) ?_; rotate_left; (focus (intro w hSw; (try dsimp only at hSw); go_simp; (try (with_reducible rfl)); done)); try simp only [Act.put, List.setIfInBounds_toArray, List.set_cons_zero, List.set_cons_succ])
  (refine wpL_calm (o := { dst := some 86, op := Go.Op.move (Go.Operand.tmp 85), type := 4, pos := "law.go:48", after := #[{ on := 1, ground := Go.Ground.data }], guard := none }) (v := ?_) rfl (Or.inl ⟨by rfl, ?_⟩) ?_; rotate_left; (focus (intro w hSw; (try dsimp only at hSw); go_simp; (try (with_reducible rfl)); done)); try simp only [Act.put, List.setIfInBounds_toArray, List.set_cons_zero, List.set_cons_succ])
  refine wpL_calm (o := { dst := some 87, op := Go.Op.load 28 (Go.Operand.tmp 8), type := 28, pos := "law.go:48", after := #[{ on := 2, ground := Go.Ground.guard }], guard := some (2, false) }) rfl (yieldsIf_load_mid (by rfl) _ _ rfl q8 0 rfl BA _ (fun _ h => range_dg h HEA.out) Tryd.underlying28 rfl (by rw [HLA.out]; kernel_rfl)) ?_; rw [HEA.out]
  try simp only [Act.put, List.setIfInBounds_toArray, List.set_cons_zero, List.set_cons_succ]
  first | (refine wpL_calm (o := { dst := some 88, op := Go.Op.move (Go.Operand.tmp 4), type := 3, pos := "law.go:48", after := #[{ on := 2, ground := Go.Ground.guard }], guard := some (2, false) }) (v := ?_) rfl (Or.inl ⟨by rfl, ?_⟩) ?_; rotate_left; (focus (intro w hSw; (try dsimp only at hSw); go_simp; (try (with_reducible rfl)); done)); try simp only [Act.put, List.setIfInBounds_toArray, List.set_cons_zero, List.set_cons_succ]) | (refine wpL_calm (o := { dst := some 88, op := Go.Op.move (Go.Operand.tmp 4), type := 3, pos := "law.go:48", after := #[{ on := 2, ground := Go.Ground.guard }], guard := some (2, false) }) (v := undef) rfl (Or.inr ⟨by rfl, rfl⟩) ?_; try simp only [Act.put, List.setIfInBounds_toArray, List.set_cons_zero, List.set_cons_succ])
  first | (refine wpL_calm (o := { dst := some 89, op := Go.Op.convert 3 5 (Go.Operand.tmp 88), type := 5, pos := "law.go:48", after := #[{ on := 4, ground := Go.Ground.data }, { on := 2, ground := Go.Ground.guard }], guard := some (2, false) }) (v := ?_) rfl (Or.inl ⟨by rfl, ?_⟩) ?_; rotate_left; (focus (intro w hSw; (try dsimp only at hSw); go_simp; (try (with_reducible rfl)); done)); try simp only [Act.put, List.setIfInBounds_toArray, List.set_cons_zero, List.set_cons_succ]) | (refine wpL_calm (o := { dst := some 89, op := Go.Op.convert 3 5 (Go.Operand.tmp 88), type := 5, pos := "law.go:48", after := #[{ on := 4, ground := Go.Ground.data }, { on := 2, ground := Go.Ground.guard }], guard := some (2, false) }) (v := undef) rfl (Or.inr ⟨by rfl, rfl⟩) ?_; try simp only [Act.put, List.setIfInBounds_toArray, List.set_cons_zero, List.set_cons_succ])
  first | (refine wpL_calm (o := { dst := some 90, op := Go.Op.move (Go.Operand.tmp 5), type := 3, pos := "law.go:48", after := #[{ on := 2, ground := Go.Ground.guard }], guard := some (2, false) }) (v := ?_) rfl (Or.inl ⟨by rfl, ?_⟩) ?_; rotate_left; (focus (intro w hSw; (try dsimp only at hSw); go_simp; (try (with_reducible rfl)); done)); try simp only [Act.put, List.setIfInBounds_toArray, List.set_cons_zero, List.set_cons_succ]) | (refine wpL_calm (o := { dst := some 90, op := Go.Op.move (Go.Operand.tmp 5), type := 3, pos := "law.go:48", after := #[{ on := 2, ground := Go.Ground.guard }], guard := some (2, false) }) (v := undef) rfl (Or.inr ⟨by rfl, rfl⟩) ?_; try simp only [Act.put, List.setIfInBounds_toArray, List.set_cons_zero, List.set_cons_succ])
  first | (refine wpL_calm (o := { dst := some 91, op := Go.Op.convert 3 5 (Go.Operand.tmp 90), type := 5, pos := "law.go:48", after := #[{ on := 6, ground := Go.Ground.data }, { on := 2, ground := Go.Ground.guard }], guard := some (2, false) }) (v := ?_) rfl (Or.inl ⟨by rfl, ?_⟩) ?_; rotate_left; (focus (intro w hSw; (try dsimp only at hSw); go_simp; (try (with_reducible rfl)); done)); try simp only [Act.put, List.setIfInBounds_toArray, List.set_cons_zero, List.set_cons_succ]) | (refine wpL_calm (o := { dst := some 91, op := Go.Op.convert 3 5 (Go.Operand.tmp 90), type := 5, pos := "law.go:48", after := #[{ on := 6, ground := Go.Ground.data }, { on := 2, ground := Go.Ground.guard }], guard := some (2, false) }) (v := undef) rfl (Or.inr ⟨by rfl, rfl⟩) ?_; try simp only [Act.put, List.setIfInBounds_toArray, List.set_cons_zero, List.set_cons_succ])
  first | (refine wpL_calm (o := { dst := some 95, op := Go.Op.move (Go.Operand.tmp 3), type := 9, pos := "law.go:48", after := #[{ on := 2, ground := Go.Ground.guard }], guard := some (2, false) }) (v := ?_) rfl (Or.inl ⟨by rfl, ?_⟩) ?_; rotate_left; (focus (intro w hSw; (try dsimp only at hSw); go_simp; (try (with_reducible rfl)); done)); try simp only [Act.put, List.setIfInBounds_toArray, List.set_cons_zero, List.set_cons_succ]) | (refine wpL_calm (o := { dst := some 95, op := Go.Op.move (Go.Operand.tmp 3), type := 9, pos := "law.go:48", after := #[{ on := 2, ground := Go.Ground.guard }], guard := some (2, false) }) (v := undef) rfl (Or.inr ⟨by rfl, rfl⟩) ?_; try simp only [Act.put, List.setIfInBounds_toArray, List.set_cons_zero, List.set_cons_succ])
  refine wpL_loud1 (o := { dst := some 92, op := Go.Op.buildSlice 35 2 #[(0, Go.Operand.tmp 89), (1, Go.Operand.tmp 91)], type := 35, pos := "law.go:48", after := #[{ on := 5, ground := Go.Ground.data }, { on := 7, ground := Go.Ground.data }, { on := 2, ground := Go.Ground.guard }], guard := some (2, false) }) rfl (fun K hK => ?_)
  go_simp
  refine hK.out _ _ ?_ (fun hHeld => ?_)
  · (try dsimp only); exact (b7.block q8 hl6).trans hd6d
  clear hK K
  try simp only [Act.put, List.setIfInBounds_toArray, List.set_cons_zero, List.set_cons_succ]
  refine wpL_loud1 (o := { dst := some 93, op := Go.Op.convert 35 9 (Go.Operand.tmp 92), type := 9, pos := "law.go:48", after := #[{ on := 8, ground := Go.Ground.data }, { on := 2, ground := Go.Ground.guard }], guard := some (2, false) }) rfl (fun K hK => ?_)
  go_simp
  refine hK.out _ _ ?_ (fun hHeld => ?_)
  · (try dsimp only); exact (b7.block q8 hl6).trans hd6d
  clear hK K
  try simp only [Act.put, List.setIfInBounds_toArray, List.set_cons_zero, List.set_cons_succ]
  first | (refine wpL_calm (o := { dst := some 94, op := Go.Op.binOp Go.BinOp.add 9 (Go.Operand.const (Go.Value.string { data := #[115, 116, 97, 114, 116] })) (Go.Operand.tmp 93) 9, type := 9, pos := "law.go:48", after := #[{ on := 9, ground := Go.Ground.data }, { on := 2, ground := Go.Ground.guard }], guard := some (2, false) }) (v := ?_) rfl (Or.inl ⟨by rfl, ?_⟩) ?_; rotate_left; (focus (intro w hSw; (try dsimp only at hSw); go_simp; (try (with_reducible rfl)); done)); try simp only [Act.put, List.setIfInBounds_toArray, List.set_cons_zero, List.set_cons_succ]) | (refine wpL_calm (o := { dst := some 94, op := Go.Op.binOp Go.BinOp.add 9 (Go.Operand.const (Go.Value.string { data := #[115, 116, 97, 114, 116] })) (Go.Operand.tmp 93) 9, type := 9, pos := "law.go:48", after := #[{ on := 9, ground := Go.Ground.data }, { on := 2, ground := Go.Ground.guard }], guard := some (2, false) }) (v := undef) rfl (Or.inr ⟨by rfl, rfl⟩) ?_; try simp only [Act.put, List.setIfInBounds_toArray, List.set_cons_zero, List.set_cons_succ])
  first | (refine wpL_calm (o := { dst := some 96, op := Go.Op.binOp Go.BinOp.add 9 (Go.Operand.tmp 94) (Go.Operand.tmp 95) 9, type := 9, pos := "law.go:48", after := #[{ on := 10, ground := Go.Ground.data }, { on := 11, ground := Go.Ground.data }, { on := 2, ground := Go.Ground.guard }], guard := some (2, false) }) (v := ?_) rfl (Or.inl ⟨by rfl, ?_⟩) ?_; rotate_left; (focus (intro w hSw; (try dsimp only at hSw); go_simp; (try (with_reducible rfl)); done)); try simp only [Act.put, List.setIfInBounds_toArray, List.set_cons_zero, List.set_cons_succ]) | (refine wpL_calm (o := { dst := some 96, op := Go.Op.binOp Go.BinOp.add 9 (Go.Operand.tmp 94) (Go.Operand.tmp 95) 9, type := 9, pos := "law.go:48", after := #[{ on := 10, ground := Go.Ground.data }, { on := 11, ground := Go.Ground.data }, { on := 2, ground := Go.Ground.guard }], guard := some (2, false) }) (v := undef) rfl (Or.inr ⟨by rfl, rfl⟩) ?_; try simp only [Act.put, List.setIfInBounds_toArray, List.set_cons_zero, List.set_cons_succ])
  refine wpL_loud1 (o := { dst := some 97, op := Go.Op.call { callee := Go.Callee.value (Go.Operand.func 10), args := #[Go.Operand.tmp 96], argTypes := #[9] }, type := 28, pos := "law.go:48", after := #[{ on := 12, ground := Go.Ground.data }, { on := 2, ground := Go.Ground.chain }, { on := 2, ground := Go.Ground.guard }], guard := some (2, false) }) rfl (fun K hK => ?_)
  (go_simp; go_at_call 10; refine (HSA.out _ (hG.below (B6d.trans (b7.mono B6d.size)))).mono ?_; rintro e w8 ⟨rfl, b8⟩)
  try go_wp2_with fail
  refine hK.out _ _ ?_ (fun hHeld => ?_)
  · (try dsimp only); exact (b8.block q8 (Nat.lt_of_lt_of_le hl6 b7.size)).trans ((b7.block q8 hl6).trans hd6d)
  clear hK K
  try simp only [Act.put, List.setIfInBounds_toArray, List.set_cons_zero, List.set_cons_succ]
  first | (refine wpL_calm (o := { dst := some 98, op := Go.Op.binOp Go.BinOp.neq 28 (Go.Operand.tmp 87) (Go.Operand.tmp 97) 28, type := 4, pos := "law.go:48", after := #[{ on := 3, ground := Go.Ground.data }, { on := 13, ground := Go.Ground.data }, { on := 2, ground := Go.Ground.guard }], guard := some (2, false) }) (v := ?_) rfl (Or.inl ⟨by rfl, ?_⟩) ?_; rotate_left; (focus (intro w hSw; (try dsimp only at hSw); go_simp; (try (with_reducible rfl)); done)); try simp only [Act.put, List.setIfInBounds_toArray, List.set_cons_zero, List.set_cons_succ]) | (refine wpL_calm (o := { dst := some 98, op := Go.Op.binOp Go.BinOp.neq 28 (Go.Operand.tmp 87) (Go.Operand.tmp 97) 28, type := 4, pos := "law.go:48", after := #[{ on := 3, ground := Go.Ground.data }, { on := 13, ground := Go.Ground.data }, { on := 2, ground := Go.Ground.guard }], guard := some (2, false) }) (v := undef) rfl (Or.inr ⟨by rfl, rfl⟩) ?_; try simp only [Act.put, List.setIfInBounds_toArray, List.set_cons_zero, List.set_cons_succ])
  (refine wpL_calm (o := { dst := some 99, op := Go.Op.pick (Go.Operand.tmp 86) (Go.Operand.const (Go.Value.bool true)) (Go.Operand.tmp 98), type := 4, pos := "law.go:48", after := #[{ on := 2, ground := Go.Ground.data }, { on := 14, ground := Go.Ground.data }], guard := none }) (v := ?_) rfl (Or.inl ⟨by rfl, ?_⟩) ?_; rotate_left; (focus (intro w hSw; (try dsimp only at hSw); go_simp; (try (with_reducible rfl)); done)); try simp only [Act.put, List.setIfInBounds_toArray, List.set_cons_zero, List.set_cons_succ])
  (refine wpL_calm (o := { dst := some 83, op := Go.Op.assign (Go.Operand.tmp 99), type := 4, pos := "law.go:48", after := #[{ on := 15, ground := Go.Ground.data }, { on := 13, ground := Go.Ground.chain }], guard := none }) (v := ?_) rfl (Or.inl ⟨by rfl, ?_⟩) ?_; rotate_left; (focus (intro w hSw; (try dsimp only at hSw); go_simp; (try (with_reducible rfl)); done)); try simp only [Act.put, List.setIfInBounds_toArray, List.set_cons_zero, List.set_cons_succ])
  refine wpL_nil ?_
  refine NoPanic.normal ?_
  have B8 := (B6d.trans (b7.mono B6d.size)).trans (b8.mono (B6d.trans (b7.mono B6d.size)).size)
  clear B6 hd6 hd6d b7 b8 hadd1 hadd2 hcv B6d hl6
  by_cases hk32 : k.size = 32
  · as_aux_lemma =>
    obtain ⟨e1, e2⟩ := chk_yes k hk32
    rw [e1, e2]
    have tk : ((k.size : Int) != 32) = false := by simp; omega
    have hadd := key_add k hk32
    have HSK := Lib.hid (key_sum k hk32)
    have HCV := Lib.hid (conv_dg (sumL (keyT k)) (sumL_len _))
    have HCX := Lib.hid (fun w' h1 h2 => check_x w.heap.size none none k w' h1 hgf hgk h2 (FewX.none _) hk32)
    obtain ⟨zk, ok⟩ := dig_ok' (keyT k)
    generalize digA (sumL (keyT k)) = DK at *
    generalize sB (sumL (keyT k)) = sK at *
    generalize sB (keyT k) = tK at *
    go_wp2_with fail
    refine (HSK.out _ (hG.below B8)).mono ?_
    rintro e x1 ⟨rfl, y1⟩
    have C1 := B8.trans (y1.mono B8.size)
    obtain ⟨x2, HX2, hk2, y2⟩ := stored_dg x1 DK
    go_upto_region 19 with (refine wpList_store_row rfl _ _ _ rfl x1.heap.size DK rfl rfl 28 _ (heap_alloc_new _ _) (by rw [zk]; kernel_rfl) (by rw [zk, z32_sizeC]) ok ?_)
    rw [HX2.out]
    clear HX2
    have C2 := C1.trans (y2.mono C1.size)
    clear y1 y2 C1
    generalize x1.heap.size = q13 at *
    go_wp2_with fail
    refine (HCX.out _ (hG.below C2) C2.size).mono ?_
    rintro e x3 ⟨X', rfl, hX', _, y3, K3⟩
    have hk3 := K3.keep _ _ hk2 (FreeX.none _)
    have C3 := C2.trans y3
    clear hk2 y3 K3 C2 hX'
    go_wp2_with fail
    refine (awake14 _ (hG.below C3)).mono ?_
    rintro e x4 ⟨rfl, y4⟩
    have hcv := HCV.out x4 q13 ((y4.block q13 (Array.getElem?_eq_some_iff.1 hk3).1).trans hk3)
    go_wp2_with fail
    go_ret
    exact ⟨rfl, C3.trans (y4.mono C3.size)⟩
  · as_aux_lemma =>
    obtain ⟨e1, e2⟩ := chk_no k hk32
    rw [e1, e2]
    have tk : ((k.size : Int) != 32) = true := by simp; omega
    go_wp2_with fail
    refine (awake14 _ (hG.below B8)).mono ?_
    rintro e x4 ⟨rfl, y4⟩
    go_wp2_with fail
    go_ret
    exact ⟨rfl, B8.trans (y4.mono B8.size)⟩
set_option maxRecDepth 100000 in
set_option maxHeartbeats 8000000 in
theorem chainSums_ok10 (s k : ByteArray) (w : World) (hG : Gl w) (hs : s.size ≤ 1000) (hk : k.size ≤ 1000) (h64 : s.size = 64) : Calls Tryd.prog 3 #[.agg #[.string s, .int .i64 1, .int .i64 0, .string k]] w fun e w' => e = .returned (.bool true) ∧ Below w.heap.size w w' := by
  have hz := zero_dig
  have hb := build_z32
  have hnz := neq_z32
  have hgf := hG.sf
  have hgk := hG.sk
  have t1 : ¬ (1000 : Int) < (s.size : Int) := by omega
  have t2 : ¬ (1000 : Int) < (k.size : Int) := by omega
  have ts : ((s.size : Int) != 64) = false := by simp; omega
  have has : (sB [1, 0]).size = 2 := by with_unfolding_all rfl
  have HST := Lib.hid (fun o X w' h1 h2 h3 => start_x10 w.heap.size o X s w' h1 hgf hgk h2 h3 h64)
  have HA1 : Hid (∀ V : World, (Op.stringOp .add (⟨#[115, 116, 97, 114, 116]⟩ : ByteArray) (sB [1, 0])).run Tryd.prog V = .ok (.string (stB ++ sB [1, 0])) V) := Lib.hid (fun V => by with_unfolding_all exact run_string_add_sum V stB (sB [1, 0]) (by rw [stB_size, has]; omega))
  have HA2 : Hid (∀ V : World, (Op.stringOp .add (stB ++ sB [1, 0]) s).run Tryd.prog V = .ok (.string (sB (startT 1 0 s))) V) := Lib.hid (fun V => by rw [← startT_eq]; exact run_string_add_sum V _ _ (by rw [ByteArray.size_append, stB_size, has, h64]; omega))
  have HSA : Hid (∀ w, Gl w → Calls Tryd.prog 10 #[.string (sB (startT 1 0 s))] w fun e w' => e = .returned (.agg (digA (sumL (startT 1 0 s)))) ∧ Below w.heap.size w w') := Lib.hid (fun w hw => by
    have h1 := sum_any (sB (startT 1 0 s)) w (by rw [← startT_eq, ByteArray.size_append, ByteArray.size_append, stB_size, has, h64]; omega) hw
    rw [sB_list' (startT 1 0 s)] at h1
    exact h1)
  obtain ⟨EA, LA, ZA, OA⟩ := dg_parts (sumL (startT 1 0 s)) (sumL_len _)
  have heqA := neq_dig2 (sumL (startT 1 0 s)) (sumL (startT 1 0 s)) (sumL_len _) (sumL_len _)
  simp only [beq_self_eq_true, Bool.not_true] at heqA
  have HEA := Lib.hid EA
  have HLA := Lib.hid LA
  clear EA LA has
  generalize bv (sumL (startT 1 0 s)) = BA at *
  generalize digA (sumL (startT 1 0 s)) = DA at *
  generalize sB (startT 1 0 s) = tA at *
  generalize hnA : stB ++ sB [1, 0] = nA at *
  clear hnA
  have HCK := Lib.hid (fun o X w' h1 h2 h3 => check_u w.heap.size o X k w' h1 hgf hgk h2 h3)
  obtain ⟨w1, HW1, hc1, B1⟩ := made_four w s k 1 0
  go_enter Tryd.func3, Tryd.ntmps3
  go_upto_region 1 with fail
  rw [HW1.out]
  clear HW1
  refine wp_region_lin (S := (fun w' => w'.cell? ⟨w.heap.size, 0, none⟩ = some (.string s) ∧ w'.cell? ⟨w.heap.size, 1, none⟩ = some (.int .i64 1) ∧ w'.cell? ⟨w.heap.size, 2, none⟩ = some (.int .i64 0) ∧ w'.cell? ⟨w.heap.size, 3, none⟩ = some (.string k))) [(0, true), (1, true), (2, true), (3, true), (4, true), (5, true), (6, true), (7, true), (8, true), (9, true), (10, true), (11, true)] (by kernel_rfl) (by kernel_rfl) rfl (by kernel_rfl) ?_ (fun hHeld => ?_)
  · (try dsimp only); exact hc1
  (refine wpL_calm (o := { dst := some 16, op := Go.Op.fieldAddr 23 (Go.Operand.tmp 1) 0, type := 0, pos := "law.go:31", after := #[], guard := none }) (v := ?_) rfl (Or.inl ⟨by rfl, ?_⟩) ?_; rotate_left; (focus (intro w hSw; (try dsimp only at hSw); go_simp; (try (with_reducible rfl)); done)); try simp only [Act.put, List.setIfInBounds_toArray, List.set_cons_zero, List.set_cons_succ])
  (refine wpL_calm (o := { dst := some 17, op := Go.Op.load 9 (Go.Operand.tmp 16), type := 9, pos := "law.go:31", after := #[{ on := 0, ground := Go.Ground.data }], guard := none }) (v := ?_) rfl (Or.inl ⟨by rfl, ?_⟩) ?_; rotate_left; (focus (intro w hSw; (try dsimp only at hSw); go_simp; (try (with_reducible rfl)); done)); try simp only [Act.put, List.setIfInBounds_toArray, List.set_cons_zero, List.set_cons_succ])
  (refine wpL_calm (o := { dst := some 18, op := Go.Op.fieldAddr 23 (Go.Operand.tmp 1) 1, type := 0, pos := "law.go:31", after := #[{ on := 8, ground := Go.Ground.gcOnly Go.Departure.lateStores }], guard := none }) (v := ?_) rfl (Or.inl ⟨by rfl, ?_⟩) ?_; rotate_left; (focus (intro w hSw; (try dsimp only at hSw); go_simp; (try (with_reducible rfl)); done)); try simp only [Act.put, List.setIfInBounds_toArray, List.set_cons_zero, List.set_cons_succ])
  (refine wpL_calm (o := { dst := some 19, op := Go.Op.load 3 (Go.Operand.tmp 18), type := 3, pos := "law.go:31", after := #[{ on := 2, ground := Go.Ground.data }, { on := 8, ground := Go.Ground.gcOnly Go.Departure.lateStores }], guard := none }) (v := ?_) rfl (Or.inl ⟨by rfl, ?_⟩) ?_; rotate_left; (focus (intro w hSw; (try dsimp only at hSw); go_simp; (try (with_reducible rfl)); done)); try simp only [Act.put, List.setIfInBounds_toArray, List.set_cons_zero, List.set_cons_succ])
  (refine wpL_calm (o := { dst := some 20, op := Go.Op.fieldAddr 23 (Go.Operand.tmp 1) 2, type := 0, pos := "law.go:31", after := #[{ on := 9, ground := Go.Ground.gcOnly Go.Departure.lateStores }], guard := none }) (v := ?_) rfl (Or.inl ⟨by rfl, ?_⟩) ?_; rotate_left; (focus (intro w hSw; (try dsimp only at hSw); go_simp; (try (with_reducible rfl)); done)); try simp only [Act.put, List.setIfInBounds_toArray, List.set_cons_zero, List.set_cons_succ])
  (refine wpL_calm (o := { dst := some 21, op := Go.Op.load 3 (Go.Operand.tmp 20), type := 3, pos := "law.go:31", after := #[{ on := 4, ground := Go.Ground.data }, { on := 9, ground := Go.Ground.gcOnly Go.Departure.lateStores }], guard := none }) (v := ?_) rfl (Or.inl ⟨by rfl, ?_⟩) ?_; rotate_left; (focus (intro w hSw; (try dsimp only at hSw); go_simp; (try (with_reducible rfl)); done)); try simp only [Act.put, List.setIfInBounds_toArray, List.set_cons_zero, List.set_cons_succ])
  (refine wpL_calm (o := { dst := some 22, op := Go.Op.fieldAddr 23 (Go.Operand.tmp 1) 3, type := 0, pos := "law.go:31", after := #[{ on := 10, ground := Go.Ground.gcOnly Go.Departure.lateStores }], guard := none }) (v := ?_) rfl (Or.inl ⟨by rfl, ?_⟩) ?_; rotate_left; (focus (intro w hSw; (try dsimp only at hSw); go_simp; (try (with_reducible rfl)); done)); try simp only [Act.put, List.setIfInBounds_toArray, List.set_cons_zero, List.set_cons_succ])
  (refine wpL_calm (o := { dst := some 23, op := Go.Op.load 9 (Go.Operand.tmp 22), type := 9, pos := "law.go:31", after := #[{ on := 6, ground := Go.Ground.data }, { on := 10, ground := Go.Ground.gcOnly Go.Departure.lateStores }], guard := none }) (v := ?_) rfl (Or.inl ⟨by rfl, ?_⟩) ?_; rotate_left; (focus (intro w hSw; (try dsimp only at hSw); go_simp; (try (with_reducible rfl)); done)); try simp only [Act.put, List.setIfInBounds_toArray, List.set_cons_zero, List.set_cons_succ])
  (refine wpL_calm (o := { dst := some 3, op := Go.Op.assign (Go.Operand.tmp 17), type := 9, pos := "law.go:31", after := #[{ on := 1, ground := Go.Ground.data }, { on := 0, ground := Go.Ground.phase }, { on := 1, ground := Go.Ground.phase }, { on := 2, ground := Go.Ground.textOnly Go.Departure.lateStores }, { on := 3, ground := Go.Ground.textOnly Go.Departure.lateStores }, { on := 4, ground := Go.Ground.textOnly Go.Departure.lateStores }, { on := 5, ground := Go.Ground.textOnly Go.Departure.lateStores }, { on := 6, ground := Go.Ground.textOnly Go.Departure.lateStores }, { on := 7, ground := Go.Ground.textOnly Go.Departure.lateStores }], guard := none }) (v := ?_) rfl (Or.inl ⟨by rfl, ?_⟩) ?_; rotate_left; (focus (intro w hSw; (try dsimp only at hSw); go_simp; (try (with_reducible rfl)); done)); try simp only [Act.put, List.setIfInBounds_toArray, List.set_cons_zero, List.set_cons_succ])
  (refine wpL_calm (o := { dst := some 4, op := Go.Op.assign (Go.Operand.tmp 19), type := 3, pos := "law.go:31", after := #[{ on := 3, ground := Go.Ground.data }, { on := 8, ground := Go.Ground.chain }, { on := 0, ground := Go.Ground.phase }, { on := 1, ground := Go.Ground.phase }, { on := 2, ground := Go.Ground.phase }, { on := 3, ground := Go.Ground.phase }, { on := 4, ground := Go.Ground.textOnly Go.Departure.lateStores }, { on := 5, ground := Go.Ground.textOnly Go.Departure.lateStores }, { on := 6, ground := Go.Ground.textOnly Go.Departure.lateStores }, { on := 7, ground := Go.Ground.textOnly Go.Departure.lateStores }, { on := 8, ground := Go.Ground.phase }], guard := none }) (v := ?_) rfl (Or.inl ⟨by rfl, ?_⟩) ?_; rotate_left; (focus (intro w hSw; (try dsimp only at hSw); go_simp; (try (with_reducible rfl)); done)); try simp only [Act.put, List.setIfInBounds_toArray, List.set_cons_zero, List.set_cons_succ])
  (refine wpL_calm (o := { dst := some 5, op := Go.Op.assign (Go.Operand.tmp 21), type := 3, pos := "law.go:31", after := #[{ on := 5, ground := Go.Ground.data }, { on := 9, ground := Go.Ground.chain }, { on := 0, ground := Go.Ground.phase }, { on := 1, ground := Go.Ground.phase }, { on := 2, ground := Go.Ground.phase }, { on := 3, ground := Go.Ground.phase }, { on := 4, ground := Go.Ground.phase }, { on := 5, ground := Go.Ground.phase }, { on := 6, ground := Go.Ground.textOnly Go.Departure.lateStores }, { on := 7, ground := Go.Ground.textOnly Go.Departure.lateStores }, { on := 8, ground := Go.Ground.phase }, { on := 9, ground := Go.Ground.phase }], guard := none }) (v := ?_) rfl (Or.inl ⟨by rfl, ?_⟩) ?_; rotate_left; (focus (intro w hSw; (try dsimp only at hSw); go_simp; (try (with_reducible rfl)); done)); try simp only [Act.put, List.setIfInBounds_toArray, List.set_cons_zero, List.set_cons_succ])
  (refine wpL_calm (o := { dst := some 6, op := Go.Op.assign (Go.Operand.tmp 23), type := 9, pos := "law.go:31", after := #[{ on := 7, ground := Go.Ground.data }, { on := 10, ground := Go.Ground.chain }, { on := 0, ground := Go.Ground.phase }, { on := 1, ground := Go.Ground.phase }, { on := 2, ground := Go.Ground.phase }, { on := 3, ground := Go.Ground.phase }, { on := 4, ground := Go.Ground.phase }, { on := 5, ground := Go.Ground.phase }, { on := 6, ground := Go.Ground.phase }, { on := 7, ground := Go.Ground.phase }, { on := 8, ground := Go.Ground.phase }, { on := 9, ground := Go.Ground.phase }, { on := 10, ground := Go.Ground.phase }], guard := none }) (v := ?_) rfl (Or.inl ⟨by rfl, ?_⟩) ?_; rotate_left; (focus (intro w hSw; (try dsimp only at hSw); go_simp; (try (with_reducible rfl)); done)); try simp only [Act.put, List.setIfInBounds_toArray, List.set_cons_zero, List.set_cons_succ])
  refine wpL_nil ?_
  refine NoPanic.normal ?_
  have B1d := B1.drew
  clear hc1 B1
  generalize World.drew w1 = w2 at *
  go_wp2_with fail
  refine (new_y w2).mono ?_
  rintro e w3 ⟨o, X3, rfl, hX3, few3, b3⟩
  have B3 := B1d.trans (b3.mono B1d.size)
  have hX3' : OrX w.heap.size w3 o X3 := hX3.weak B1d.size
  clear hX3 b3 B1d
  go_wp2_with fail
  refine (HST.out o X3 w3 (hG.below B3) hX3' (few3.mono (by omega))).mono ?_
  rintro e w4 ⟨X4, rfl, hX4, hS4, b4, K4⟩
  have B4 := B3.trans b4
  have few4 : FewX X4 1000000 := (hS4.few few3).mono (by omega)
  clear hX3' hS4 K4 b4 B3 HST
  obtain ⟨w5, HW5, hd5, b5⟩ := stored_dg w4 DA
  go_upto_region 6 with (refine wpList_store_row rfl _ _ _ rfl w4.heap.size DA rfl rfl 28 _ (heap_alloc_new _ _) (by rw [ZA]; kernel_rfl) (by rw [ZA, z32_sizeC]) OA ?_)
  rw [HW5.out]
  clear HW5
  have hX5 := hX4.below b5
  have hf5 : FreeX X4 w4.heap.size := hX4.free _ (Nat.le_refl _)
  have B5 := B4.trans (b5.mono B4.size)
  clear hX4 b5 B4
  generalize w4.heap.size = q8 at *
  go_wp2_with fail
  refine (HCK.out o X4 w5 (hG.below B5) hX5 few4).mono ?_
  rintro e w6 ⟨rfl, b6, k6⟩
  have hd6 := k6 _ _ hd5 hf5
  have B6 := B5.trans b6
  clear hX5 hd5 b6 k6 B5 hf5 few4
  go_upto_region 14 with fail
  have hl6 := (Array.getElem?_eq_some_iff.1 hd6).1
  have hadd1 := HA1.out
  have hadd2 := HA2.out
  have wr0 : IntKind.u8.wrap 0 = 0 := by decide
  have wr1 : IntKind.u8.wrap 1 = 1 := by decide
  have hcv := conv_twoW10 ((w6.alloc (.cells #[.int .u8 1, .int .u8 0] 5)).drew) w6.heap.size (heap_alloc_new w6 _)
  have B6d := B6.drew
  have hd6d : w6.drew.heap[q8]? = some (.cells DA 28 (0, 0)) := hd6
  have b7 := (Below.refl w6.drew.heap.size w6.drew).alloc (Nat.le_refl _) (.cells #[.int .u8 1, .int .u8 0] 5)
  refine wp_region_lin_all (S := (fun w' => w'.heap[q8]? = some (.cells DA 28 (0, 0)))) [(0, true), (1, true), (2, true), (3, true), (4, true), (5, true), (6, true), (7, true), (11, true), (8, false), (9, false), (10, true), (12, true), (13, false), (14, true), (15, true), (16, true)] (by kernel_rfl) (by kernel_rfl) rfl (by kernel_rfl) ?_ (fun hHeld => ?_)
  · (try dsimp only); exact hd6
  (refine wpL_calm (o := { dst := some 84, op := Go.Op.move (Go.Operand.tmp 9), type := 29, pos := "law.go:48", after := #[], guard := none }) (v := ?_) rfl (Or.inl ⟨by rfl, ?_⟩) ?_; rotate_left; (focus (intro w hSw; (try dsimp only at hSw); go_simp; (try (with_reducible rfl)); done)); try simp only [Act.put, List.setIfInBounds_toArray, List.set_cons_zero, List.set_cons_succ])
  (refine wpL_calm (o := { dst := some 85, op := Go.Op.binOp Go.BinOp.neq 29 (Go.Operand.tmp 84) (Go.Operand.const (Go.Value.int Go.IntKind.i64 0)) 29, type := 4, pos := "law.go:48", after := #[{ on := 0, ground := Go.Ground.data }], guard := none }) (v := ?_) rfl (Or.inl ⟨by rfl, ?_⟩) ?_; rotate_left; (focus (intro w hSw; (try dsimp only at hSw); go_simp; (try (with_reducible rfl)); done)); try simp only [Act.put, List.setIfInBounds_toArray, List.set_cons_zero, List.set_cons_succ])
  (refine wpL_calm (o := { dst := some 86, op := Go.Op.move (Go.Operand.tmp 85), type := 4, pos := "law.go:48", after := #[{ on := 1, ground := Go.Ground.data }], guard := none }) (v := ?_) rfl (Or.inl ⟨by rfl, ?_⟩) ?_; rotate_left; (focus (intro w hSw; (try dsimp only at hSw); go_simp; (try (with_reducible rfl)); done)); try simp only [Act.put, List.setIfInBounds_toArray, List.set_cons_zero, List.set_cons_succ])
  refine wpL_calm (o := { dst := some 87, op := Go.Op.load 28 (Go.Operand.tmp 8), type := 28, pos := "law.go:48", after := #[{ on := 2, ground := Go.Ground.guard }], guard := some (2, false) }) rfl (yieldsIf_load_mid (by rfl) _ _ rfl q8 0 rfl BA _ (fun _ h => range_dg h HEA.out) Tryd.underlying28 rfl (by rw [HLA.out]; kernel_rfl)) ?_; rw [HEA.out]
  try simp only [Act.put, List.setIfInBounds_toArray, List.set_cons_zero, List.set_cons_succ]
  first | (refine wpL_calm (o := { dst := some 88, op := Go.Op.move (Go.Operand.tmp 4), type := 3, pos := "law.go:48", after := #[{ on := 2, ground := Go.Ground.guard }], guard := some (2, false) }) (v := ?_) rfl (Or.inl ⟨by rfl, ?_⟩) ?_; rotate_left; (focus (intro w hSw; (try dsimp only at hSw); go_simp; (try (with_reducible rfl)); done)); try simp only [Act.put, List.setIfInBounds_toArray, List.set_cons_zero, List.set_cons_succ]) | (refine wpL_calm (o := { dst := some 88, op := Go.Op.move (Go.Operand.tmp 4), type := 3, pos := "law.go:48", after := #[{ on := 2, ground := Go.Ground.guard }], guard := some (2, false) }) (v := undef) rfl (Or.inr ⟨by rfl, rfl⟩) ?_; try simp only [Act.put, List.setIfInBounds_toArray, List.set_cons_zero, List.set_cons_succ])
  first | (refine wpL_calm (o := { dst := some 89, op := Go.Op.convert 3 5 (Go.Operand.tmp 88), type := 5, pos := "law.go:48", after := #[{ on := 4, ground := Go.Ground.data }, { on := 2, ground := Go.Ground.guard }], guard := some (2, false) }) (v := ?_) rfl (Or.inl ⟨by rfl, ?_⟩) ?_; rotate_left; (focus (intro w hSw; (try dsimp only at hSw); go_simp; (try (with_reducible rfl)); done)); try simp only [Act.put, List.setIfInBounds_toArray, List.set_cons_zero, List.set_cons_succ]) | (refine wpL_calm (o := { dst := some 89, op := Go.Op.convert 3 5 (Go.Operand.tmp 88), type := 5, pos := "law.go:48", after := #[{ on := 4, ground := Go.Ground.data }, { on := 2, ground := Go.Ground.guard }], guard := some (2, false) }) (v := undef) rfl (Or.inr ⟨by rfl, rfl⟩) ?_; try simp only [Act.put, List.setIfInBounds_toArray, List.set_cons_zero, List.set_cons_succ])
  first | (refine wpL_calm (o := { dst := some 90, op := Go.Op.move (Go.Operand.tmp 5), type := 3, pos := "law.go:48", after := #[{ on := 2, ground := Go.Ground.guard }], guard := some (2, false) }) (v := ?_) rfl (Or.inl ⟨by rfl, ?_⟩) ?_; rotate_left; (focus (intro w hSw; (try dsimp only at hSw); go_simp; (try (with_reducible rfl)); done)); try simp only [Act.put, List.setIfInBounds_toArray, List.set_cons_zero, List.set_cons_succ]) | (refine wpL_calm (o := { dst := some 90, op := Go.Op.move (Go.Operand.tmp 5), type := 3, pos := "law.go:48", after := #[{ on := 2, ground := Go.Ground.guard }], guard := some (2, false) }) (v := undef) rfl (Or.inr ⟨by rfl, rfl⟩) ?_; try simp only [Act.put, List.setIfInBounds_toArray, List.set_cons_zero, List.set_cons_succ])
  first | (refine wpL_calm (o := { dst := some 91, op := Go.Op.convert 3 5 (Go.Operand.tmp 90), type := 5, pos := "law.go:48", after := #[{ on := 6, ground := Go.Ground.data }, { on := 2, ground := Go.Ground.guard }], guard := some (2, false) }) (v := ?_) rfl (Or.inl ⟨by rfl, ?_⟩) ?_; rotate_left; (focus (intro w hSw; (try dsimp only at hSw); go_simp; (try (with_reducible rfl)); done)); try simp only [Act.put, List.setIfInBounds_toArray, List.set_cons_zero, List.set_cons_succ]) | (refine wpL_calm (o := { dst := some 91, op := Go.Op.convert 3 5 (Go.Operand.tmp 90), type := 5, pos := "law.go:48", after := #[{ on := 6, ground := Go.Ground.data }, { on := 2, ground := Go.Ground.guard }], guard := some (2, false) }) (v := undef) rfl (Or.inr ⟨by rfl, rfl⟩) ?_; try simp only [Act.put, List.setIfInBounds_toArray, List.set_cons_zero, List.set_cons_succ])
  first | (refine wpL_calm (o := { dst := some 95, op := Go.Op.move (Go.Operand.tmp 3), type := 9, pos := "law.go:48", after := #[{ on := 2, ground := Go.Ground.guard }], guard := some (2, false) }) (v := ?_) rfl (Or.inl ⟨by rfl, ?_⟩) ?_; rotate_left; (focus (intro w hSw; (try dsimp only at hSw); go_simp; (try (with_reducible rfl)); done)); try simp only [Act.put, List.setIfInBounds_toArray, List.set_cons_zero, List.set_cons_succ]) | (refine wpL_calm (o := { dst := some 95, op := Go.Op.move (Go.Operand.tmp 3), type := 9, pos := "law.go:48", after := #[{ on := 2, ground := Go.Ground.guard }], guard := some (2, false) }) (v := undef) rfl (Or.inr ⟨by rfl, rfl⟩) ?_; try simp only [Act.put, List.setIfInBounds_toArray, List.set_cons_zero, List.set_cons_succ])
  refine wpL_loud1 (o := { dst := some 92, op := Go.Op.buildSlice 35 2 #[(0, Go.Operand.tmp 89), (1, Go.Operand.tmp 91)], type := 35, pos := "law.go:48", after := #[{ on := 5, ground := Go.Ground.data }, { on := 7, ground := Go.Ground.data }, { on := 2, ground := Go.Ground.guard }], guard := some (2, false) }) rfl (fun K hK => ?_)
  go_simp
  refine hK.out _ _ ?_ (fun hHeld => ?_)
  · (try dsimp only); exact (b7.block q8 hl6).trans hd6d
  clear hK K
  try simp only [Act.put, List.setIfInBounds_toArray, List.set_cons_zero, List.set_cons_succ]
  refine wpL_loud1 (o := { dst := some 93, op := Go.Op.convert 35 9 (Go.Operand.tmp 92), type := 9, pos := "law.go:48", after := #[{ on := 8, ground := Go.Ground.data }, { on := 2, ground := Go.Ground.guard }], guard := some (2, false) }) rfl (fun K hK => ?_)
  go_simp
  refine hK.out _ _ ?_ (fun hHeld => ?_)
  · (try dsimp only); exact (b7.block q8 hl6).trans hd6d
  clear hK K
  try simp only [Act.put, List.setIfInBounds_toArray, List.set_cons_zero, List.set_cons_succ]
  first | (refine wpL_calm (o := { dst := some 94, op := Go.Op.binOp Go.BinOp.add 9 (Go.Operand.const (Go.Value.string { data := #[115, 116, 97, 114, 116] })) (Go.Operand.tmp 93) 9, type := 9, pos := "law.go:48", after := #[{ on := 9, ground := Go.Ground.data }, { on := 2, ground := Go.Ground.guard }], guard := some (2, false) }) (v := ?_) rfl (Or.inl ⟨by rfl, ?_⟩) ?_; rotate_left; (focus (intro w hSw; (try dsimp only at hSw); go_simp; (try (with_reducible rfl)); done)); try simp only [Act.put, List.setIfInBounds_toArray, List.set_cons_zero, List.set_cons_succ]) | (refine wpL_calm (o := { dst := some 94, op := Go.Op.binOp Go.BinOp.add 9 (Go.Operand.const (Go.Value.string { data := #[115, 116, 97, 114, 116] })) (Go.Operand.tmp 93) 9, type := 9, pos := "law.go:48", after := #[{ on := 9, ground := Go.Ground.data }, { on := 2, ground := Go.Ground.guard }], guard := some (2, false) }) (v := undef) rfl (Or.inr ⟨by rfl, rfl⟩) ?_; try simp only [Act.put, List.setIfInBounds_toArray, List.set_cons_zero, List.set_cons_succ])
  first | (refine wpL_calm (o := { dst := some 96, op := Go.Op.binOp Go.BinOp.add 9 (Go.Operand.tmp 94) (Go.Operand.tmp 95) 9, type := 9, pos := "law.go:48", after := #[{ on := 10, ground := Go.Ground.data }, { on := 11, ground := Go.Ground.data }, { on := 2, ground := Go.Ground.guard }], guard := some (2, false) }) (v := ?_) rfl (Or.inl ⟨by rfl, ?_⟩) ?_; rotate_left; (focus (intro w hSw; (try dsimp only at hSw); go_simp; (try (with_reducible rfl)); done)); try simp only [Act.put, List.setIfInBounds_toArray, List.set_cons_zero, List.set_cons_succ]) | (refine wpL_calm (o := { dst := some 96, op := Go.Op.binOp Go.BinOp.add 9 (Go.Operand.tmp 94) (Go.Operand.tmp 95) 9, type := 9, pos := "law.go:48", after := #[{ on := 10, ground := Go.Ground.data }, { on := 11, ground := Go.Ground.data }, { on := 2, ground := Go.Ground.guard }], guard := some (2, false) }) (v := undef) rfl (Or.inr ⟨by rfl, rfl⟩) ?_; try simp only [Act.put, List.setIfInBounds_toArray, List.set_cons_zero, List.set_cons_succ])
  refine wpL_loud1 (o := { dst := some 97, op := Go.Op.call { callee := Go.Callee.value (Go.Operand.func 10), args := #[Go.Operand.tmp 96], argTypes := #[9] }, type := 28, pos := "law.go:48", after := #[{ on := 12, ground := Go.Ground.data }, { on := 2, ground := Go.Ground.chain }, { on := 2, ground := Go.Ground.guard }], guard := some (2, false) }) rfl (fun K hK => ?_)
  (go_simp; go_at_call 10; refine (HSA.out _ (hG.below (B6d.trans (b7.mono B6d.size)))).mono ?_; rintro e w8 ⟨rfl, b8⟩)
  try go_wp2_with fail
  refine hK.out _ _ ?_ (fun hHeld => ?_)
  · (try dsimp only); exact (b8.block q8 (Nat.lt_of_lt_of_le hl6 b7.size)).trans ((b7.block q8 hl6).trans hd6d)
  clear hK K
  try simp only [Act.put, List.setIfInBounds_toArray, List.set_cons_zero, List.set_cons_succ]
  first | (refine wpL_calm (o := { dst := some 98, op := Go.Op.binOp Go.BinOp.neq 28 (Go.Operand.tmp 87) (Go.Operand.tmp 97) 28, type := 4, pos := "law.go:48", after := #[{ on := 3, ground := Go.Ground.data }, { on := 13, ground := Go.Ground.data }, { on := 2, ground := Go.Ground.guard }], guard := some (2, false) }) (v := ?_) rfl (Or.inl ⟨by rfl, ?_⟩) ?_; rotate_left; (focus (intro w hSw; (try dsimp only at hSw); go_simp; (try (with_reducible rfl)); done)); try simp only [Act.put, List.setIfInBounds_toArray, List.set_cons_zero, List.set_cons_succ]) | (refine wpL_calm (o := { dst := some 98, op := Go.Op.binOp Go.BinOp.neq 28 (Go.Operand.tmp 87) (Go.Operand.tmp 97) 28, type := 4, pos := "law.go:48", after := #[{ on := 3, ground := Go.Ground.data }, { on := 13, ground := Go.Ground.data }, { on := 2, ground := Go.Ground.guard }], guard := some (2, false) }) (v := undef) rfl (Or.inr ⟨by rfl, rfl⟩) ?_; try simp only [Act.put, List.setIfInBounds_toArray, List.set_cons_zero, List.set_cons_succ])
  (refine wpL_calm (o := { dst := some 99, op := Go.Op.pick (Go.Operand.tmp 86) (Go.Operand.const (Go.Value.bool true)) (Go.Operand.tmp 98), type := 4, pos := "law.go:48", after := #[{ on := 2, ground := Go.Ground.data }, { on := 14, ground := Go.Ground.data }], guard := none }) (v := ?_) rfl (Or.inl ⟨by rfl, ?_⟩) ?_; rotate_left; (focus (intro w hSw; (try dsimp only at hSw); go_simp; (try (with_reducible rfl)); done)); try simp only [Act.put, List.setIfInBounds_toArray, List.set_cons_zero, List.set_cons_succ])
  (refine wpL_calm (o := { dst := some 83, op := Go.Op.assign (Go.Operand.tmp 99), type := 4, pos := "law.go:48", after := #[{ on := 15, ground := Go.Ground.data }, { on := 13, ground := Go.Ground.chain }], guard := none }) (v := ?_) rfl (Or.inl ⟨by rfl, ?_⟩) ?_; rotate_left; (focus (intro w hSw; (try dsimp only at hSw); go_simp; (try (with_reducible rfl)); done)); try simp only [Act.put, List.setIfInBounds_toArray, List.set_cons_zero, List.set_cons_succ])
  refine wpL_nil ?_
  refine NoPanic.normal ?_
  have B8 := (B6d.trans (b7.mono B6d.size)).trans (b8.mono (B6d.trans (b7.mono B6d.size)).size)
  clear B6 hd6 hd6d b7 b8 hadd1 hadd2 hcv B6d hl6
  by_cases hk32 : k.size = 32
  · as_aux_lemma =>
    obtain ⟨e1, e2⟩ := chk_yes k hk32
    rw [e1, e2]
    have tk : ((k.size : Int) != 32) = false := by simp; omega
    have hadd := key_add k hk32
    have HSK := Lib.hid (key_sum k hk32)
    have HCV := Lib.hid (conv_dg (sumL (keyT k)) (sumL_len _))
    have HCX := Lib.hid (fun w' h1 h2 => check_x w.heap.size none none k w' h1 hgf hgk h2 (FewX.none _) hk32)
    obtain ⟨zk, ok⟩ := dig_ok' (keyT k)
    generalize digA (sumL (keyT k)) = DK at *
    generalize sB (sumL (keyT k)) = sK at *
    generalize sB (keyT k) = tK at *
    go_wp2_with fail
    refine (HSK.out _ (hG.below B8)).mono ?_
    rintro e x1 ⟨rfl, y1⟩
    have C1 := B8.trans (y1.mono B8.size)
    obtain ⟨x2, HX2, hk2, y2⟩ := stored_dg x1 DK
    go_upto_region 19 with (refine wpList_store_row rfl _ _ _ rfl x1.heap.size DK rfl rfl 28 _ (heap_alloc_new _ _) (by rw [zk]; kernel_rfl) (by rw [zk, z32_sizeC]) ok ?_)
    rw [HX2.out]
    clear HX2
    have C2 := C1.trans (y2.mono C1.size)
    clear y1 y2 C1
    generalize x1.heap.size = q13 at *
    go_wp2_with fail
    refine (HCX.out _ (hG.below C2) C2.size).mono ?_
    rintro e x3 ⟨X', rfl, hX', _, y3, K3⟩
    have hk3 := K3.keep _ _ hk2 (FreeX.none _)
    have C3 := C2.trans y3
    clear hk2 y3 K3 C2 hX'
    go_wp2_with fail
    refine (awake14 _ (hG.below C3)).mono ?_
    rintro e x4 ⟨rfl, y4⟩
    have hcv := HCV.out x4 q13 ((y4.block q13 (Array.getElem?_eq_some_iff.1 hk3).1).trans hk3)
    go_wp2_with fail
    go_ret
    exact ⟨rfl, C3.trans (y4.mono C3.size)⟩
  · as_aux_lemma =>
    obtain ⟨e1, e2⟩ := chk_no k hk32
    rw [e1, e2]
    have tk : ((k.size : Int) != 32) = true := by simp; omega
    go_wp2_with fail
    refine (awake14 _ (hG.below B8)).mono ?_
    rintro e x4 ⟨rfl, y4⟩
    go_wp2_with fail
    go_ret
    exact ⟨rfl, B8.trans (y4.mono B8.size)⟩
set_option maxRecDepth 100000 in
set_option maxHeartbeats 8000000 in
theorem chainSums_ok11 (s k : ByteArray) (w : World) (hG : Gl w) (hs : s.size ≤ 1000) (hk : k.size ≤ 1000) (h64 : s.size = 64) : Calls Tryd.prog 3 #[.agg #[.string s, .int .i64 1, .int .i64 1, .string k]] w fun e w' => e = .returned (.bool true) ∧ Below w.heap.size w w' := by
  have hz := zero_dig
  have hb := build_z32
  have hnz := neq_z32
  have hgf := hG.sf
  have hgk := hG.sk
  have t1 : ¬ (1000 : Int) < (s.size : Int) := by omega
  have t2 : ¬ (1000 : Int) < (k.size : Int) := by omega
  have ts : ((s.size : Int) != 64) = false := by simp; omega
  have has : (sB [1, 1]).size = 2 := by with_unfolding_all rfl
  have HST := Lib.hid (fun o X w' h1 h2 h3 => start_x11 w.heap.size o X s w' h1 hgf hgk h2 h3 h64)
  have HA1 : Hid (∀ V : World, (Op.stringOp .add (⟨#[115, 116, 97, 114, 116]⟩ : ByteArray) (sB [1, 1])).run Tryd.prog V = .ok (.string (stB ++ sB [1, 1])) V) := Lib.hid (fun V => by with_unfolding_all exact run_string_add_sum V stB (sB [1, 1]) (by rw [stB_size, has]; omega))
  have HA2 : Hid (∀ V : World, (Op.stringOp .add (stB ++ sB [1, 1]) s).run Tryd.prog V = .ok (.string (sB (startT 1 1 s))) V) := Lib.hid (fun V => by rw [← startT_eq]; exact run_string_add_sum V _ _ (by rw [ByteArray.size_append, stB_size, has, h64]; omega))
  have HSA : Hid (∀ w, Gl w → Calls Tryd.prog 10 #[.string (sB (startT 1 1 s))] w fun e w' => e = .returned (.agg (digA (sumL (startT 1 1 s)))) ∧ Below w.heap.size w w') := Lib.hid (fun w hw => by
    have h1 := sum_any (sB (startT 1 1 s)) w (by rw [← startT_eq, ByteArray.size_append, ByteArray.size_append, stB_size, has, h64]; omega) hw
    rw [sB_list' (startT 1 1 s)] at h1
    exact h1)
  obtain ⟨EA, LA, ZA, OA⟩ := dg_parts (sumL (startT 1 1 s)) (sumL_len _)
  have heqA := neq_dig2 (sumL (startT 1 1 s)) (sumL (startT 1 1 s)) (sumL_len _) (sumL_len _)
  simp only [beq_self_eq_true, Bool.not_true] at heqA
  have HEA := Lib.hid EA
  have HLA := Lib.hid LA
  clear EA LA has
  generalize bv (sumL (startT 1 1 s)) = BA at *
  generalize digA (sumL (startT 1 1 s)) = DA at *
  generalize sB (startT 1 1 s) = tA at *
  generalize hnA : stB ++ sB [1, 1] = nA at *
  clear hnA
  have HCK := Lib.hid (fun o X w' h1 h2 h3 => check_u w.heap.size o X k w' h1 hgf hgk h2 h3)
  obtain ⟨w1, HW1, hc1, B1⟩ := made_four w s k 1 1
  go_enter Tryd.func3, Tryd.ntmps3
  go_upto_region 1 with fail
  rw [HW1.out]
  clear HW1
  refine wp_region_lin (S := (fun w' => w'.cell? ⟨w.heap.size, 0, none⟩ = some (.string s) ∧ w'.cell? ⟨w.heap.size, 1, none⟩ = some (.int .i64 1) ∧ w'.cell? ⟨w.heap.size, 2, none⟩ = some (.int .i64 1) ∧ w'.cell? ⟨w.heap.size, 3, none⟩ = some (.string k))) [(0, true), (1, true), (2, true), (3, true), (4, true), (5, true), (6, true), (7, true), (8, true), (9, true), (10, true), (11, true)] (by kernel_rfl) (by kernel_rfl) rfl (by kernel_rfl) ?_ (fun hHeld => ?_)
  · (try dsimp only); exact hc1
  (refine wpL_calm (o := { dst := some 16, op := Go.Op.fieldAddr 23 (Go.Operand.tmp 1) 0, type := 0, pos := "law.go:31", after := #[], guard := none }) (v := ?_) rfl (Or.inl ⟨by rfl, ?_⟩) ?_; rotate_left; (focus (intro w hSw; (try dsimp only at hSw); go_simp; (try (with_reducible rfl)); done)); try simp only [Act.put, List.setIfInBounds_toArray, List.set_cons_zero, List.set_cons_succ])
  (refine wpL_calm (o := { dst := some 17, op := Go.Op.load 9 (Go.Operand.tmp 16), type := 9, pos := "law.go:31", after := #[{ on := 0, ground := Go.Ground.data }], guard := none }) (v := ?_) rfl (Or.inl ⟨by rfl, ?_⟩) ?_; rotate_left; (focus (intro w hSw; (try dsimp only at hSw); go_simp; (try (with_reducible rfl)); done)); try simp only [Act.put, List.setIfInBounds_toArray, List.set_cons_zero, List.set_cons_succ])
  (refine wpL_calm (o := { dst := some 18, op := Go.Op.fieldAddr 23 (Go.Operand.tmp 1) 1, type := 0, pos := "law.go:31", after := #[{ on := 8, ground := Go.Ground.gcOnly Go.Departure.lateStores }], guard := none }) (v := ?_) rfl (Or.inl ⟨by rfl, ?_⟩) ?_; rotate_left; (focus (intro w hSw; (try dsimp only at hSw); go_simp; (try (with_reducible rfl)); done)); try simp only [Act.put, List.setIfInBounds_toArray, List.set_cons_zero, List.set_cons_succ])
  (refine wpL_calm (o := { dst := some 19, op := Go.Op.load 3 (Go.Operand.tmp 18), type := 3, pos := "law.go:31", after := #[{ on := 2, ground := Go.Ground.data }, { on := 8, ground := Go.Ground.gcOnly Go.Departure.lateStores }], guard := none }) (v := ?_) rfl (Or.inl ⟨by rfl, ?_⟩) ?_; rotate_left; (focus (intro w hSw; (try dsimp only at hSw); go_simp; (try (with_reducible rfl)); done)); try simp only [Act.put, List.setIfInBounds_toArray, List.set_cons_zero, List.set_cons_succ])
  (refine wpL_calm (o := { dst := some 20, op := Go.Op.fieldAddr 23 (Go.Operand.tmp 1) 2, type := 0, pos := "law.go:31", after := #[{ on := 9, ground := Go.Ground.gcOnly Go.Departure.lateStores }], guard := none }) (v := ?_) rfl (Or.inl ⟨by rfl, ?_⟩) ?_; rotate_left; (focus (intro w hSw; (try dsimp only at hSw); go_simp; (try (with_reducible rfl)); done)); try simp only [Act.put, List.setIfInBounds_toArray, List.set_cons_zero, List.set_cons_succ])
  (refine wpL_calm (o := { dst := some 21, op := Go.Op.load 3 (Go.Operand.tmp 20), type := 3, pos := "law.go:31", after := #[{ on := 4, ground := Go.Ground.data }, { on := 9, ground := Go.Ground.gcOnly Go.Departure.lateStores }], guard := none }) (v := ?_) rfl (Or.inl ⟨by rfl, ?_⟩) ?_; rotate_left; (focus (intro w hSw; (try dsimp only at hSw); go_simp; (try (with_reducible rfl)); done)); try simp only [Act.put, List.setIfInBounds_toArray, List.set_cons_zero, List.set_cons_succ])
  (refine wpL_calm (o := { dst := some 22, op := Go.Op.fieldAddr 23 (Go.Operand.tmp 1) 3, type := 0, pos := "law.go:31", after := #[{ on := 10, ground := Go.Ground.gcOnly Go.Departure.lateStores }], guard := none }) (v := ?_) rfl (Or.inl ⟨by rfl, ?_⟩) ?_; rotate_left; (focus (intro w hSw; (try dsimp only at hSw); go_simp; (try (with_reducible rfl)); done)); try simp only [Act.put, List.setIfInBounds_toArray, List.set_cons_zero, List.set_cons_succ])
  (refine wpL_calm (o := { dst := some 23, op := Go.Op.load 9 (Go.Operand.tmp 22), type := 9, pos := "law.go:31", after := #[{ on := 6, ground := Go.Ground.data }, { on := 10, ground := Go.Ground.gcOnly Go.Departure.lateStores }], guard := none }) (v := ?_) rfl (Or.inl ⟨by rfl, ?_⟩) ?_; rotate_left; (focus (intro w hSw; (try dsimp only at hSw); go_simp; (try (with_reducible rfl)); done)); try simp only [Act.put, List.setIfInBounds_toArray, List.set_cons_zero, List.set_cons_succ])
  (refine wpL_calm (o := { dst := some 3, op := Go.Op.assign (Go.Operand.tmp 17), type := 9, pos := "law.go:31", after := #[{ on := 1, ground := Go.Ground.data }, { on := 0, ground := Go.Ground.phase }, { on := 1, ground := Go.Ground.phase }, { on := 2, ground := Go.Ground.textOnly Go.Departure.lateStores }, { on := 3, ground := Go.Ground.textOnly Go.Departure.lateStores }, { on := 4, ground := Go.Ground.textOnly Go.Departure.lateStores }, { on := 5, ground := Go.Ground.textOnly Go.Departure.lateStores }, { on := 6, ground := Go.Ground.textOnly Go.Departure.lateStores }, { on := 7, ground := Go.Ground.textOnly Go.Departure.lateStores }], guard := none }) (v := ?_) rfl (Or.inl ⟨by rfl, ?_⟩) ?_; rotate_left; (focus (intro w hSw; (try dsimp only at hSw); go_simp; (try (with_reducible rfl)); done)); try simp only [Act.put, List.setIfInBounds_toArray, List.set_cons_zero, List.set_cons_succ])
  (refine wpL_calm (o := { dst := some 4, op := Go.Op.assign (Go.Operand.tmp 19), type := 3, pos := "law.go:31", after := #[{ on := 3, ground := Go.Ground.data }, { on := 8, ground := Go.Ground.chain }, { on := 0, ground := Go.Ground.phase }, { on := 1, ground := Go.Ground.phase }, { on := 2, ground := Go.Ground.phase }, { on := 3, ground := Go.Ground.phase }, { on := 4, ground := Go.Ground.textOnly Go.Departure.lateStores }, { on := 5, ground := Go.Ground.textOnly Go.Departure.lateStores }, { on := 6, ground := Go.Ground.textOnly Go.Departure.lateStores }, { on := 7, ground := Go.Ground.textOnly Go.Departure.lateStores }, { on := 8, ground := Go.Ground.phase }], guard := none }) (v := ?_) rfl (Or.inl ⟨by rfl, ?_⟩) ?_; rotate_left; (focus (intro w hSw; (try dsimp only at hSw); go_simp; (try (with_reducible rfl)); done)); try simp only [Act.put, List.setIfInBounds_toArray, List.set_cons_zero, List.set_cons_succ])
  (refine wpL_calm (o := { dst := some 5, op := Go.Op.assign (Go.Operand.tmp 21), type := 3, pos := "law.go:31", after := #[{ on := 5, ground := Go.Ground.data }, { on := 9, ground := Go.Ground.chain }, { on := 0, ground := Go.Ground.phase }, { on := 1, ground := Go.Ground.phase }, { on := 2, ground := Go.Ground.phase }, { on := 3, ground := Go.Ground.phase }, { on := 4, ground := Go.Ground.phase }, { on := 5, ground := Go.Ground.phase }, { on := 6, ground := Go.Ground.textOnly Go.Departure.lateStores }, { on := 7, ground := Go.Ground.textOnly Go.Departure.lateStores }, { on := 8, ground := Go.Ground.phase }, { on := 9, ground := Go.Ground.phase }], guard := none }) (v := ?_) rfl (Or.inl ⟨by rfl, ?_⟩) ?_; rotate_left; (focus (intro w hSw; (try dsimp only at hSw); go_simp; (try (with_reducible rfl)); done)); try simp only [Act.put, List.setIfInBounds_toArray, List.set_cons_zero, List.set_cons_succ])
  (refine wpL_calm (o := { dst := some 6, op := Go.Op.assign (Go.Operand.tmp 23), type := 9, pos := "law.go:31", after := #[{ on := 7, ground := Go.Ground.data }, { on := 10, ground := Go.Ground.chain }, { on := 0, ground := Go.Ground.phase }, { on := 1, ground := Go.Ground.phase }, { on := 2, ground := Go.Ground.phase }, { on := 3, ground := Go.Ground.phase }, { on := 4, ground := Go.Ground.phase }, { on := 5, ground := Go.Ground.phase }, { on := 6, ground := Go.Ground.phase }, { on := 7, ground := Go.Ground.phase }, { on := 8, ground := Go.Ground.phase }, { on := 9, ground := Go.Ground.phase }, { on := 10, ground := Go.Ground.phase }], guard := none }) (v := ?_) rfl (Or.inl ⟨by rfl, ?_⟩) ?_; rotate_left; (focus (intro w hSw; (try dsimp only at hSw); go_simp; (try (with_reducible rfl)); done)); try simp only [Act.put, List.setIfInBounds_toArray, List.set_cons_zero, List.set_cons_succ])
  refine wpL_nil ?_
  refine NoPanic.normal ?_
  have B1d := B1.drew
  clear hc1 B1
  generalize World.drew w1 = w2 at *
  go_wp2_with fail
  refine (new_y w2).mono ?_
  rintro e w3 ⟨o, X3, rfl, hX3, few3, b3⟩
  have B3 := B1d.trans (b3.mono B1d.size)
  have hX3' : OrX w.heap.size w3 o X3 := hX3.weak B1d.size
  clear hX3 b3 B1d
  go_wp2_with fail
  refine (HST.out o X3 w3 (hG.below B3) hX3' (few3.mono (by omega))).mono ?_
  rintro e w4 ⟨X4, rfl, hX4, hS4, b4, K4⟩
  have B4 := B3.trans b4
  have few4 : FewX X4 1000000 := (hS4.few few3).mono (by omega)
  clear hX3' hS4 K4 b4 B3 HST
  obtain ⟨w5, HW5, hd5, b5⟩ := stored_dg w4 DA
  go_upto_region 6 with (refine wpList_store_row rfl _ _ _ rfl w4.heap.size DA rfl rfl 28 _ (heap_alloc_new _ _) (by rw [ZA]; kernel_rfl) (by rw [ZA, z32_sizeC]) OA ?_)
  rw [HW5.out]
  clear HW5
  have hX5 := hX4.below b5
  have hf5 : FreeX X4 w4.heap.size := hX4.free _ (Nat.le_refl _)
  have B5 := B4.trans (b5.mono B4.size)
  clear hX4 b5 B4
  generalize w4.heap.size = q8 at *
  go_wp2_with fail
  refine (HCK.out o X4 w5 (hG.below B5) hX5 few4).mono ?_
  rintro e w6 ⟨rfl, b6, k6⟩
  have hd6 := k6 _ _ hd5 hf5
  have B6 := B5.trans b6
  clear hX5 hd5 b6 k6 B5 hf5 few4
  go_upto_region 14 with fail
  have hl6 := (Array.getElem?_eq_some_iff.1 hd6).1
  have hadd1 := HA1.out
  have hadd2 := HA2.out
  have wr0 : IntKind.u8.wrap 0 = 0 := by decide
  have wr1 : IntKind.u8.wrap 1 = 1 := by decide
  have hcv := conv_twoW11 ((w6.alloc (.cells #[.int .u8 1, .int .u8 1] 5)).drew) w6.heap.size (heap_alloc_new w6 _)
  have B6d := B6.drew
  have hd6d : w6.drew.heap[q8]? = some (.cells DA 28 (0, 0)) := hd6
  have b7 := (Below.refl w6.drew.heap.size w6.drew).alloc (Nat.le_refl _) (.cells #[.int .u8 1, .int .u8 1] 5)
  refine wp_region_lin_all (S := (fun w' => w'.heap[q8]? = some (.cells DA 28 (0, 0)))) [(0, true), (1, true), (2, true), (3, true), (4, true), (5, true), (6, true), (7, true), (11, true), (8, false), (9, false), (10, true), (12, true), (13, false), (14, true), (15, true), (16, true)] (by kernel_rfl) (by kernel_rfl) rfl (by kernel_rfl) ?_ (fun hHeld => ?_)
  · (try dsimp only); exact hd6
  (refine wpL_calm (o := { dst := some 84, op := Go.Op.move (Go.Operand.tmp 9), type := 29, pos := "law.go:48", after := #[], guard := none }) (v := ?_) rfl (Or.inl ⟨by rfl, ?_⟩) ?_; rotate_left; (focus (intro w hSw; (try dsimp only at hSw); go_simp; (try (with_reducible rfl)); done)); try simp only [Act.put, List.setIfInBounds_toArray, List.set_cons_zero, List.set_cons_succ])
  (refine wpL_calm (o := { dst := some 85, op := Go.Op.binOp Go.BinOp.neq 29 (Go.Operand.tmp 84) (Go.Operand.const (Go.Value.int Go.IntKind.i64 0)) 29, type := 4, pos := "law.go:48", after := #[{ on := 0, ground := Go.Ground.data }], guard := none }) (v := ?_) rfl (Or.inl ⟨by rfl, ?_⟩) ?_; rotate_left; (focus (intro w hSw; (try dsimp only at hSw); go_simp; (try (with_reducible rfl)); done)); try simp only [Act.put, List.setIfInBounds_toArray, List.set_cons_zero, List.set_cons_succ])
  (refine wpL_calm (o := { dst := some 86, op := Go.Op.move (Go.Operand.tmp 85), type := 4, pos := "law.go:48", after := #[{ on := 1, ground := Go.Ground.data }], guard := none }) (v := ?_) rfl (Or.inl ⟨by rfl, ?_⟩) ?_; rotate_left; (focus (intro w hSw; (try dsimp only at hSw); go_simp; (try (with_reducible rfl)); done)); try simp only [Act.put, List.setIfInBounds_toArray, List.set_cons_zero, List.set_cons_succ])
  refine wpL_calm (o := { dst := some 87, op := Go.Op.load 28 (Go.Operand.tmp 8), type := 28, pos := "law.go:48", after := #[{ on := 2, ground := Go.Ground.guard }], guard := some (2, false) }) rfl (yieldsIf_load_mid (by rfl) _ _ rfl q8 0 rfl BA _ (fun _ h => range_dg h HEA.out) Tryd.underlying28 rfl (by rw [HLA.out]; kernel_rfl)) ?_; rw [HEA.out]
  try simp only [Act.put, List.setIfInBounds_toArray, List.set_cons_zero, List.set_cons_succ]
  first | (refine wpL_calm (o := { dst := some 88, op := Go.Op.move (Go.Operand.tmp 4), type := 3, pos := "law.go:48", after := #[{ on := 2, ground := Go.Ground.guard }], guard := some (2, false) }) (v := ?_) rfl (Or.inl ⟨by rfl, ?_⟩) ?_; rotate_left; (focus (intro w hSw; (try dsimp only at hSw); go_simp; (try (with_reducible rfl)); done)); try simp only [Act.put, List.setIfInBounds_toArray, List.set_cons_zero, List.set_cons_succ]) | (refine wpL_calm (o := { dst := some 88, op := Go.Op.move (Go.Operand.tmp 4), type := 3, pos := "law.go:48", after := #[{ on := 2, ground := Go.Ground.guard }], guard := some (2, false) }) (v := undef) rfl (Or.inr ⟨by rfl, rfl⟩) ?_; try simp only [Act.put, List.setIfInBounds_toArray, List.set_cons_zero, List.set_cons_succ])
  first | (refine wpL_calm (o := { dst := some 89, op := Go.Op.convert 3 5 (Go.Operand.tmp 88), type := 5, pos := "law.go:48", after := #[{ on := 4, ground := Go.Ground.data }, { on := 2, ground := Go.Ground.guard }], guard := some (2, false) }) (v := ?_) rfl (Or.inl ⟨by rfl, ?_⟩) ?_; rotate_left; (focus (intro w hSw; (try dsimp only at hSw); go_simp; (try (with_reducible rfl)); done)); try simp only [Act.put, List.setIfInBounds_toArray, List.set_cons_zero, List.set_cons_succ]) | (refine wpL_calm (o := { dst := some 89, op := Go.Op.convert 3 5 (Go.Operand.tmp 88), type := 5, pos := "law.go:48", after := #[{ on := 4, ground := Go.Ground.data }, { on := 2, ground := Go.Ground.guard }], guard := some (2, false) }) (v := undef) rfl (Or.inr ⟨by rfl, rfl⟩) ?_; try simp only [Act.put, List.setIfInBounds_toArray, List.set_cons_zero, List.set_cons_succ])
  first | (refine wpL_calm (o := { dst := some 90, op := Go.Op.move (Go.Operand.tmp 5), type := 3, pos := "law.go:48", after := #[{ on := 2, ground := Go.Ground.guard }], guard := some (2, false) }) (v := ?_) rfl (Or.inl ⟨by rfl, ?_⟩) ?_; rotate_left; (focus (intro w hSw; (try dsimp only at hSw); go_simp; (try (with_reducible rfl)); done)); try simp only [Act.put, List.setIfInBounds_toArray, List.set_cons_zero, List.set_cons_succ]) | (refine wpL_calm (o := { dst := some 90, op := Go.Op.move (Go.Operand.tmp 5), type := 3, pos := "law.go:48", after := #[{ on := 2, ground := Go.Ground.guard }], guard := some (2, false) }) (v := undef) rfl (Or.inr ⟨by rfl, rfl⟩) ?_; try simp only [Act.put, List.setIfInBounds_toArray, List.set_cons_zero, List.set_cons_succ])
  first | (refine wpL_calm (o := { dst := some 91, op := Go.Op.convert 3 5 (Go.Operand.tmp 90), type := 5, pos := "law.go:48", after := #[{ on := 6, ground := Go.Ground.data }, { on := 2, ground := Go.Ground.guard }], guard := some (2, false) }) (v := ?_) rfl (Or.inl ⟨by rfl, ?_⟩) ?_; rotate_left; (focus (intro w hSw; (try dsimp only at hSw); go_simp; (try (with_reducible rfl)); done)); try simp only [Act.put, List.setIfInBounds_toArray, List.set_cons_zero, List.set_cons_succ]) | (refine wpL_calm (o := { dst := some 91, op := Go.Op.convert 3 5 (Go.Operand.tmp 90), type := 5, pos := "law.go:48", after := #[{ on := 6, ground := Go.Ground.data }, { on := 2, ground := Go.Ground.guard }], guard := some (2, false) }) (v := undef) rfl (Or.inr ⟨by rfl, rfl⟩) ?_; try simp only [Act.put, List.setIfInBounds_toArray, List.set_cons_zero, List.set_cons_succ])
  first | (refine wpL_calm (o := { dst := some 95, op := Go.Op.move (Go.Operand.tmp 3), type := 9, pos := "law.go:48", after := #[{ on := 2, ground := Go.Ground.guard }], guard := some (2, false) }) (v := ?_) rfl (Or.inl ⟨by rfl, ?_⟩) ?_; rotate_left; (focus (intro w hSw; (try dsimp only at hSw); go_simp; (try (with_reducible rfl)); done)); try simp only [Act.put, List.setIfInBounds_toArray, List.set_cons_zero, List.set_cons_succ]) | (refine wpL_calm (o := { dst := some 95, op := Go.Op.move (Go.Operand.tmp 3), type := 9, pos := "law.go:48", after := #[{ on := 2, ground := Go.Ground.guard }], guard := some (2, false) }) (v := undef) rfl (Or.inr ⟨by rfl, rfl⟩) ?_; try simp only [Act.put, List.setIfInBounds_toArray, List.set_cons_zero, List.set_cons_succ])
  refine wpL_loud1 (o := { dst := some 92, op := Go.Op.buildSlice 35 2 #[(0, Go.Operand.tmp 89), (1, Go.Operand.tmp 91)], type := 35, pos := "law.go:48", after := #[{ on := 5, ground := Go.Ground.data }, { on := 7, ground := Go.Ground.data }, { on := 2, ground := Go.Ground.guard }], guard := some (2, false) }) rfl (fun K hK => ?_)
  go_simp
  refine hK.out _ _ ?_ (fun hHeld => ?_)
  · (try dsimp only); exact (b7.block q8 hl6).trans hd6d
  clear hK K
  try simp only [Act.put, List.setIfInBounds_toArray, List.set_cons_zero, List.set_cons_succ]
  refine wpL_loud1 (o := { dst := some 93, op := Go.Op.convert 35 9 (Go.Operand.tmp 92), type := 9, pos := "law.go:48", after := #[{ on := 8, ground := Go.Ground.data }, { on := 2, ground := Go.Ground.guard }], guard := some (2, false) }) rfl (fun K hK => ?_)
  go_simp
  refine hK.out _ _ ?_ (fun hHeld => ?_)
  · (try dsimp only); exact (b7.block q8 hl6).trans hd6d
  clear hK K
  try simp only [Act.put, List.setIfInBounds_toArray, List.set_cons_zero, List.set_cons_succ]
  first | (refine wpL_calm (o := { dst := some 94, op := Go.Op.binOp Go.BinOp.add 9 (Go.Operand.const (Go.Value.string { data := #[115, 116, 97, 114, 116] })) (Go.Operand.tmp 93) 9, type := 9, pos := "law.go:48", after := #[{ on := 9, ground := Go.Ground.data }, { on := 2, ground := Go.Ground.guard }], guard := some (2, false) }) (v := ?_) rfl (Or.inl ⟨by rfl, ?_⟩) ?_; rotate_left; (focus (intro w hSw; (try dsimp only at hSw); go_simp; (try (with_reducible rfl)); done)); try simp only [Act.put, List.setIfInBounds_toArray, List.set_cons_zero, List.set_cons_succ]) | (refine wpL_calm (o := { dst := some 94, op := Go.Op.binOp Go.BinOp.add 9 (Go.Operand.const (Go.Value.string { data := #[115, 116, 97, 114, 116] })) (Go.Operand.tmp 93) 9, type := 9, pos := "law.go:48", after := #[{ on := 9, ground := Go.Ground.data }, { on := 2, ground := Go.Ground.guard }], guard := some (2, false) }) (v := undef) rfl (Or.inr ⟨by rfl, rfl⟩) ?_; try simp only [Act.put, List.setIfInBounds_toArray, List.set_cons_zero, List.set_cons_succ])
  first | (refine wpL_calm (o := { dst := some 96, op := Go.Op.binOp Go.BinOp.add 9 (Go.Operand.tmp 94) (Go.Operand.tmp 95) 9, type := 9, pos := "law.go:48", after := #[{ on := 10, ground := Go.Ground.data }, { on := 11, ground := Go.Ground.data }, { on := 2, ground := Go.Ground.guard }], guard := some (2, false) }) (v := ?_) rfl (Or.inl ⟨by rfl, ?_⟩) ?_; rotate_left; (focus (intro w hSw; (try dsimp only at hSw); go_simp; (try (with_reducible rfl)); done)); try simp only [Act.put, List.setIfInBounds_toArray, List.set_cons_zero, List.set_cons_succ]) | (refine wpL_calm (o := { dst := some 96, op := Go.Op.binOp Go.BinOp.add 9 (Go.Operand.tmp 94) (Go.Operand.tmp 95) 9, type := 9, pos := "law.go:48", after := #[{ on := 10, ground := Go.Ground.data }, { on := 11, ground := Go.Ground.data }, { on := 2, ground := Go.Ground.guard }], guard := some (2, false) }) (v := undef) rfl (Or.inr ⟨by rfl, rfl⟩) ?_; try simp only [Act.put, List.setIfInBounds_toArray, List.set_cons_zero, List.set_cons_succ])
  refine wpL_loud1 (o := { dst := some 97, op := Go.Op.call { callee := Go.Callee.value (Go.Operand.func 10), args := #[Go.Operand.tmp 96], argTypes := #[9] }, type := 28, pos := "law.go:48", after := #[{ on := 12, ground := Go.Ground.data }, { on := 2, ground := Go.Ground.chain }, { on := 2, ground := Go.Ground.guard }], guard := some (2, false) }) rfl (fun K hK => ?_)
  (go_simp; go_at_call 10; refine (HSA.out _ (hG.below (B6d.trans (b7.mono B6d.size)))).mono ?_; rintro e w8 ⟨rfl, b8⟩)
  try go_wp2_with fail
  refine hK.out _ _ ?_ (fun hHeld => ?_)
  · (try dsimp only); exact (b8.block q8 (Nat.lt_of_lt_of_le hl6 b7.size)).trans ((b7.block q8 hl6).trans hd6d)
  clear hK K
  try simp only [Act.put, List.setIfInBounds_toArray, List.set_cons_zero, List.set_cons_succ]
  first | (refine wpL_calm (o := { dst := some 98, op := Go.Op.binOp Go.BinOp.neq 28 (Go.Operand.tmp 87) (Go.Operand.tmp 97) 28, type := 4, pos := "law.go:48", after := #[{ on := 3, ground := Go.Ground.data }, { on := 13, ground := Go.Ground.data }, { on := 2, ground := Go.Ground.guard }], guard := some (2, false) }) (v := ?_) rfl (Or.inl ⟨by rfl, ?_⟩) ?_; rotate_left; (focus (intro w hSw; (try dsimp only at hSw); go_simp; (try (with_reducible rfl)); done)); try simp only [Act.put, List.setIfInBounds_toArray, List.set_cons_zero, List.set_cons_succ]) | (refine wpL_calm (o := { dst := some 98, op := Go.Op.binOp Go.BinOp.neq 28 (Go.Operand.tmp 87) (Go.Operand.tmp 97) 28, type := 4, pos := "law.go:48", after := #[{ on := 3, ground := Go.Ground.data }, { on := 13, ground := Go.Ground.data }, { on := 2, ground := Go.Ground.guard }], guard := some (2, false) }) (v := undef) rfl (Or.inr ⟨by rfl, rfl⟩) ?_; try simp only [Act.put, List.setIfInBounds_toArray, List.set_cons_zero, List.set_cons_succ])
  (refine wpL_calm (o := { dst := some 99, op := Go.Op.pick (Go.Operand.tmp 86) (Go.Operand.const (Go.Value.bool true)) (Go.Operand.tmp 98), type := 4, pos := "law.go:48", after := #[{ on := 2, ground := Go.Ground.data }, { on := 14, ground := Go.Ground.data }], guard := none }) (v := ?_) rfl (Or.inl ⟨by rfl, ?_⟩) ?_; rotate_left; (focus (intro w hSw; (try dsimp only at hSw); go_simp; (try (with_reducible rfl)); done)); try simp only [Act.put, List.setIfInBounds_toArray, List.set_cons_zero, List.set_cons_succ])
  (refine wpL_calm (o := { dst := some 83, op := Go.Op.assign (Go.Operand.tmp 99), type := 4, pos := "law.go:48", after := #[{ on := 15, ground := Go.Ground.data }, { on := 13, ground := Go.Ground.chain }], guard := none }) (v := ?_) rfl (Or.inl ⟨by rfl, ?_⟩) ?_; rotate_left; (focus (intro w hSw; (try dsimp only at hSw); go_simp; (try (with_reducible rfl)); done)); try simp only [Act.put, List.setIfInBounds_toArray, List.set_cons_zero, List.set_cons_succ])
  refine wpL_nil ?_
  refine NoPanic.normal ?_
  have B8 := (B6d.trans (b7.mono B6d.size)).trans (b8.mono (B6d.trans (b7.mono B6d.size)).size)
  clear B6 hd6 hd6d b7 b8 hadd1 hadd2 hcv B6d hl6
  by_cases hk32 : k.size = 32
  · as_aux_lemma =>
    obtain ⟨e1, e2⟩ := chk_yes k hk32
    rw [e1, e2]
    have tk : ((k.size : Int) != 32) = false := by simp; omega
    have hadd := key_add k hk32
    have HSK := Lib.hid (key_sum k hk32)
    have HCV := Lib.hid (conv_dg (sumL (keyT k)) (sumL_len _))
    have HCX := Lib.hid (fun w' h1 h2 => check_x w.heap.size none none k w' h1 hgf hgk h2 (FewX.none _) hk32)
    obtain ⟨zk, ok⟩ := dig_ok' (keyT k)
    generalize digA (sumL (keyT k)) = DK at *
    generalize sB (sumL (keyT k)) = sK at *
    generalize sB (keyT k) = tK at *
    go_wp2_with fail
    refine (HSK.out _ (hG.below B8)).mono ?_
    rintro e x1 ⟨rfl, y1⟩
    have C1 := B8.trans (y1.mono B8.size)
    obtain ⟨x2, HX2, hk2, y2⟩ := stored_dg x1 DK
    go_upto_region 19 with (refine wpList_store_row rfl _ _ _ rfl x1.heap.size DK rfl rfl 28 _ (heap_alloc_new _ _) (by rw [zk]; kernel_rfl) (by rw [zk, z32_sizeC]) ok ?_)
    rw [HX2.out]
    clear HX2
    have C2 := C1.trans (y2.mono C1.size)
    clear y1 y2 C1
    generalize x1.heap.size = q13 at *
    go_wp2_with fail
    refine (HCX.out _ (hG.below C2) C2.size).mono ?_
    rintro e x3 ⟨X', rfl, hX', _, y3, K3⟩
    have hk3 := K3.keep _ _ hk2 (FreeX.none _)
    have C3 := C2.trans y3
    clear hk2 y3 K3 C2 hX'
    go_wp2_with fail
    refine (awake14 _ (hG.below C3)).mono ?_
    rintro e x4 ⟨rfl, y4⟩
    have hcv := HCV.out x4 q13 ((y4.block q13 (Array.getElem?_eq_some_iff.1 hk3).1).trans hk3)
    go_wp2_with fail
    go_ret
    exact ⟨rfl, C3.trans (y4.mono C3.size)⟩
  · as_aux_lemma =>
    obtain ⟨e1, e2⟩ := chk_no k hk32
    rw [e1, e2]
    have tk : ((k.size : Int) != 32) = true := by simp; omega
    go_wp2_with fail
    refine (awake14 _ (hG.below B8)).mono ?_
    rintro e x4 ⟨rfl, y4⟩
    go_wp2_with fail
    go_ret
    exact ⟨rfl, B8.trans (y4.mono B8.size)⟩
end Go.Proofs.YtjoihpeclkhjdaaDoor
