/- The law NodeSums (made by gennoj.py). -/
import Derived.Test.YtaopmiocompibaaDoorNoJ
namespace Go.Proofs.YtaopmiocompibaaDoor
open Go.RowKit Go.Deep Go.Maps
set_option linter.unusedVariables false
set_option linter.unusedSimpArgs false
theorem wpList_load_arr_g {P : Program} {ops : Array Oper} {rest : List Oper} {o : Oper} {a : Act} {w : World} {Q : Exit → Act → World → Prop} (hw : Region.wanted o (yielded ops a.tmps) = true) (ty : TypeId) (x : Operand) (ho : o.op = .load ty x)
    (g : Nat) (hx : a.eval x = .pointer (some ⟨g, 0, none⟩)) (t : TypeId) (cs : Array Value) (fr : Nat × Nat) (d : TypeDesc) (hg : w.heap[g]? = some (.cells cs t fr))
    (hu : P.underlying ty = some d) (hd : (match d with | .struct _ | .array _ _ => true | _ => false) = true) (hi : (P.info? ty).map (·.size) = some cs.size)
    (h : wpList P ops Q rest (a.put o.dst (.agg cs)) w) : wpList P ops Q (o :: rest) a w := by
  unfold wpList
  rw [if_pos hw]
  exact .inl (wp_load_row ty x ho g hx t cs fr d hg hu hd hi h)
/-- A block holds an array whole. -/
def LoadedA (P : Program) (ty : TypeId) (w : World) (g : Nat) (cs : Array Value) : Prop := ∃ t fr n e, w.heap[g]? = some (.cells cs t fr) ∧ P.underlying ty = some (.array n e) ∧ (P.info? ty).map (·.size) = some cs.size
theorem wpList_load_arr_i {P : Program} {ops : Array Oper} {rest : List Oper} {o : Oper} {a : Act} {w : World} {Q : Exit → Act → World → Prop} {g : Nat} {cs : Array Value} (ty : TypeId) (x : Operand) (ho : o.op = .load ty x)
    (h2 : Region.wanted o (yielded ops a.tmps) = true ∧ a.eval x = .pointer (some ⟨g, 0, none⟩)) (hL : LoadedA P ty w g cs)
    (h : wpList P ops Q rest (a.put o.dst (.agg cs)) w) : wpList P ops Q (o :: rest) a w := by
  obtain ⟨t, fr, n, e, hg, hu, hi⟩ := hL
  exact wpList_load_arr_g h2.1 ty x ho g h2.2 t cs fr (.array n e) hg hu rfl hi h
theorem loadedA_z {w : World} {g : Nat} (h : w.heap[g]? = some (.cells z32 33 (0, 0))) : LoadedA Tryd.prog 33 w g z32 := ⟨_, _, _, _, h, Tryd.underlying33, by kernel_rfl⟩
theorem eql_z32 (w : World) : (binOp .eql 33 (.agg z32) (.agg z32)).run Tryd.prog w = .ok (.bool true) w := by kernel_rfl
attribute [local irreducible] digA sumL z32
set_option maxRecDepth 100000 in
set_option maxHeartbeats 4000000 in
theorem nodeSums_no (s : ByteArray) (w : World) (h : s.size ≤ 1000) (h64 : s.size ≠ 64) (hG : Gl w) : Calls Tryd.prog 4 #[.string s] w fun e w' => e = .returned (.bool true) ∧ Below w.heap.size w w' := by
  have h' : ¬ (1000 : Int) < (s.size : Int) := by omega
  have ht : ((s.size : Int) != 64) = true := by simp; omega
  have hz := zero_dig
  have hb := build_z32
  have hez := eql_z32
  have HL := Lib.hid (fun o w => leaf_no o s w h64)
  have HN := Lib.hid (fun o w => node_no o s w h64)
  clear h64
  go_enter Tryd.func4, Tryd.ntmps4
  go_wp2_with fail
  refine (orNew_any w.heap.size w (Nat.le_refl _)).mono ?_
  rintro e w1 ⟨rfl, _, B1⟩
  go_wp2_with fail
  refine (HL.out _ _).mono ?_
  rintro e w2 ⟨rfl, b2⟩
  have B2 := B1.trans (b2.mono B1.size)
  clear b2 B1
  obtain ⟨w3, HW3, hd3, b3⟩ := stored_dg w2 z32
  have B3 := B2.trans (b3.mono B2.size)
  have hq3 : w2.heap.size < w3.heap.size := (Array.getElem?_eq_some_iff.1 hd3).1
  clear b3 B2
  go_upto_region 4 with (refine wpList_store_row rfl _ _ _ rfl w2.heap.size z32 rfl rfl 33 _ (heap_alloc_new _ _) (by with_unfolding_all kernel_rfl) rfl z32_one ?_)
  rw [HW3.out]
  clear HW3
  generalize w2.heap.size = q at *
  go_wp2_with fail
  refine (orNew_any w3.heap.size w3 (Nat.le_refl _)).mono ?_
  rintro e w4 ⟨rfl, _, b4⟩
  have hd4 := (b4.block q hq3).trans hd3
  have B4 := B3.trans (b4.mono B3.size)
  have hq4 := Nat.lt_of_lt_of_le hq3 b4.size
  clear b4 B3 hd3 hq3
  go_wp2_with fail
  refine (HN.out _ _).mono ?_
  rintro e w5 ⟨rfl, b5⟩
  have hd5 := (b5.block q hq4).trans hd4
  have B5 := B4.trans (b5.mono B4.size)
  have hq5 := Nat.lt_of_lt_of_le hq4 b5.size
  clear b5 B4 hd4 hq4
  obtain ⟨w6, HW6, hp6, b6⟩ := stored_dg w5 z32
  have hd6 := (b6.block q hq5).trans hd5
  have B6 := B5.trans (b6.mono B5.size)
  have hq6 := Nat.lt_of_lt_of_le hq5 b6.size
  have hp6q : w5.heap.size < w6.heap.size := (Array.getElem?_eq_some_iff.1 hp6).1
  clear b6 B5 hd5 hq5
  go_upto_region 5 with (refine wpList_store_row rfl _ _ _ rfl w5.heap.size z32 rfl rfl 33 _ (heap_alloc_new _ _) (by with_unfolding_all kernel_rfl) rfl z32_one ?_)
  rw [HW6.out]
  clear HW6
  generalize w5.heap.size = p at *
  go_wp2_with fail
  refine (awake17 _ (hG.below B6)).mono ?_
  rintro e w7 ⟨rfl, b7⟩
  have B7 := B6.trans (b7.mono B6.size)
  have l1 := loadedA_z ((b7.block q hq6).trans hd6)
  have l2 := loadedA_z ((b7.block p hp6q).trans hp6)
  clear b7 B6 hd6 hp6
  go_wp2_with (first | ((with_reducible refine wpList_load_arr_i (g := q) (cs := z32) 33 _ rfl ?_ ?_ ?_); exact ⟨rfl, rfl⟩; assumption) | ((with_reducible refine wpList_load_arr_i (g := p) (cs := z32) 33 _ rfl ?_ ?_ ?_); exact ⟨rfl, rfl⟩; assumption))
  go_ret
  exact ⟨rfl, B7⟩
theorem one1 : (⟨#[1]⟩ : ByteArray).size = 1 := rfl
set_option maxRecDepth 100000 in
set_option maxHeartbeats 4000000 in
theorem nodeSums_yes (s : ByteArray) (w : World) (h64 : s.size = 64) (hG : Gl w) : Calls Tryd.prog 4 #[.string s] w fun e w' => e = .returned (.bool true) ∧ Below w.heap.size w w' := by
  have h' : ¬ (1000 : Int) < (s.size : Int) := by omega
  have ht : ((s.size : Int) != 64) = false := by simp; omega
  have hz := zero_dig
  have HL := Lib.hid (fun w0 w hg hw hp => leaf_new s w0 w hg hw hp h64)
  have HN := Lib.hid (fun w0 w hg hw hp => node_new s w0 w hg hw hp h64)
  have hadd0 : ∀ V : World, (Op.stringOp .add (⟨#[0]⟩ : ByteArray) s).run Tryd.prog V = .ok (.string ((⟨#[0]⟩ : ByteArray) ++ s)) V := fun V => run_string_add_sum V _ _ (by rw [one0, h64]; omega)
  have hadd1 : ∀ V : World, (Op.stringOp .add (⟨#[1]⟩ : ByteArray) s).run Tryd.prog V = .ok (.string ((⟨#[1]⟩ : ByteArray) ++ s)) V := fun V => run_string_add_sum V _ _ (by rw [one1, h64]; omega)
  have hs0 : ((⟨#[0]⟩ : ByteArray) ++ s).size ≤ 1000 := by rw [ByteArray.size_append, one0, h64]; omega
  have hs1 : ((⟨#[1]⟩ : ByteArray) ++ s).size ≤ 1000 := by rw [ByteArray.size_append, one1, h64]; omega
  have HS0 := Lib.hid (fun w hw => sum_any ((⟨#[0]⟩ : ByteArray) ++ s) w (by omega) hw)
  have HS1 := Lib.hid (fun w hw => sum_any ((⟨#[1]⟩ : ByteArray) ++ s) w (by omega) hw)
  obtain ⟨hdz0, hone0⟩ := dig_ok' ((⟨#[0]⟩ : ByteArray) ++ s).data.toList
  obtain ⟨hdz1, hone1⟩ := dig_ok' ((⟨#[1]⟩ : ByteArray) ++ s).data.toList
  have heq0 := eql_dig (sumL ((⟨#[0]⟩ : ByteArray) ++ s).data.toList) (sumL_len _)
  have heq1 := eql_dig (sumL ((⟨#[1]⟩ : ByteArray) ++ s).data.toList) (sumL_len _)
  have HBV0 : Hid ((bv (sumL ((⟨#[0]⟩ : ByteArray) ++ s).data.toList)).toArray = digA (sumL ((⟨#[0]⟩ : ByteArray) ++ s).data.toList)) := Lib.hid (by with_unfolding_all rfl)
  have HBV1 : Hid ((bv (sumL ((⟨#[1]⟩ : ByteArray) ++ s).data.toList)).toArray = digA (sumL ((⟨#[1]⟩ : ByteArray) ++ s).data.toList)) := Lib.hid (by with_unfolding_all rfl)
  have H320 := Lib.hid (dig_len ((⟨#[0]⟩ : ByteArray) ++ s).data.toList)
  have H321 := Lib.hid (dig_len ((⟨#[1]⟩ : ByteArray) ++ s).data.toList)
  clear hs0 hs1 h64
  generalize digA (sumL ((⟨#[0]⟩ : ByteArray) ++ s).data.toList) = D0 at *
  generalize digA (sumL ((⟨#[1]⟩ : ByteArray) ++ s).data.toList) = D1 at *
  generalize bv (sumL ((⟨#[0]⟩ : ByteArray) ++ s).data.toList) = BV0 at *
  generalize bv (sumL ((⟨#[1]⟩ : ByteArray) ++ s).data.toList) = BV1 at *
  go_enter Tryd.func4, Tryd.ntmps4
  go_wp2_with fail
  refine (orNew_any w.heap.size w (Nat.le_refl _)).mono ?_
  rintro e w1 ⟨rfl, P1, B1⟩
  have HL1 := Lib.hid (HL.out w w1 (hG.below B1) hG P1)
  clear P1 HL
  go_wp2_with fail
  refine HL1.out.mono ?_
  rintro e w2 ⟨rfl, b2⟩
  have B2 := B1.trans b2
  clear b2 B1 HL1
  obtain ⟨w3, HW3, hd3, b3⟩ := stored_dg w2 D0
  have B3 := B2.trans (b3.mono B2.size)
  have hq3 : w2.heap.size < w3.heap.size := (Array.getElem?_eq_some_iff.1 hd3).1
  clear b3 B2
  go_upto_region 4 with (refine wpList_store_row rfl _ _ _ rfl w2.heap.size D0 rfl rfl 33 _ (heap_alloc_new _ _) (by rw [hdz0]; kernel_rfl) (by rw [hdz0]; with_unfolding_all rfl) hone0 ?_)
  rw [HW3.out]
  clear HW3
  generalize w2.heap.size = q at *
  go_wp2_with fail
  refine (orNew_any w3.heap.size w3 (Nat.le_refl _)).mono ?_
  rintro e w4 ⟨rfl, P4, b4⟩
  have hd4 := (b4.block q hq3).trans hd3
  have B4 := B3.trans (b4.mono B3.size)
  have HN4 := Lib.hid (HN.out w3 w4 (hG.below B4) (hG.below B3) P4)
  have hb3s := B3.size
  clear P4 b4 HN hd3
  go_wp2_with fail
  refine HN4.out.mono ?_
  rintro e w5 ⟨rfl, b5⟩
  have hd5 := (b5.block q hq3).trans hd4
  have B5 := B4.trans (b5.mono hb3s)
  have hq5 : q < w5.heap.size := (Array.getElem?_eq_some_iff.1 hd5).1
  clear b5 B4 hd4 HN4 B3 hq3
  obtain ⟨w6, HW6, hp6, b6⟩ := stored_dg w5 D1
  have hd6 := (b6.block q hq5).trans hd5
  have B6 := B5.trans (b6.mono B5.size)
  have hq6 := Nat.lt_of_lt_of_le hq5 b6.size
  have hp6q : w5.heap.size < w6.heap.size := (Array.getElem?_eq_some_iff.1 hp6).1
  clear b6 B5 hd5 hq5
  go_upto_region 7 with (refine wpList_store_row rfl _ _ _ rfl w5.heap.size D1 rfl rfl 33 _ (heap_alloc_new _ _) (by rw [hdz1]; kernel_rfl) (by rw [hdz1]; with_unfolding_all rfl) hone1 ?_)
  rw [HW6.out]
  clear HW6
  generalize w5.heap.size = p at *
  have r1 := range_dg hd6 HBV0.out
  have r2 := range_dg hp6 HBV1.out
  clear hd6 hp6
  refine wp_region_lin (S := (fun w' => w'.rangeAt q 0 BV0 ∧ w'.rangeAt p 0 BV1)) [(0, false), (1, true), (2, true), (3, true), (4, true), (5, true), (6, true), (7, true), (8, true), (9, true), (10, true), (11, true), (12, true), (13, false), (14, true), (15, true), (16, true), (17, true), (18, true), (19, true), (20, false), (21, true), (22, true), (23, true)] (by kernel_rfl) (by kernel_rfl) rfl (by kernel_rfl) ?_ (fun hHeld => ?_)
  · (try dsimp only); exact ⟨r1, r2⟩
  refine wpL_loud1 (o := { dst := some 45, op := Go.Op.call { callee := Go.Callee.value (Go.Operand.func 12), args := #[], argTypes := #[] }, type := 4, pos := "law.go:68", after := #[], guard := none }) rfl (fun K hK => ?_)
  (go_simp; go_at_call 12; refine (awake17 _ (hG.below B6.drew)).mono ?_; rintro e w7 ⟨rfl, b7⟩; have B7 := B6.drew.trans (b7.mono B6.size); have r17 := range_below (w := w6.drew) r1 b7 hq6; have r27 := range_below (w := w6.drew) r2 b7 hp6q; have hq7 := Nat.lt_of_lt_of_le hq6 b7.size; have hp7 := Nat.lt_of_lt_of_le hp6q b7.size)
  try go_wp2_with fail
  refine hK.out _ _ ?_ (fun hHeld => ?_)
  · (try dsimp only); exact ⟨r17, r27⟩
  clear hK K
  try simp only [Act.put, List.setIfInBounds_toArray, List.set_cons_zero, List.set_cons_succ]
  (refine wpL_calm (o := { dst := some 46, op := Go.Op.move (Go.Operand.tmp 45), type := 4, pos := "law.go:68", after := #[{ on := 0, ground := Go.Ground.data }, { on := 0, ground := Go.Ground.chain }], guard := none }) (v := ?_) rfl (Or.inl ⟨by rfl, ?_⟩) ?_; rotate_left; (focus (intro w hSw; (try dsimp only at hSw); go_simp; (try (with_reducible rfl)); done)); try simp only [Act.put, List.setIfInBounds_toArray, List.set_cons_zero, List.set_cons_succ])
  first | (refine wpL_calm (o := { dst := some 47, op := Go.Op.move (Go.Operand.tmp 4), type := 23, pos := "law.go:68", after := #[{ on := 1, ground := Go.Ground.guard }], guard := some (1, true) }) (v := ?_) rfl (Or.inl ⟨by rfl, ?_⟩) ?_; rotate_left; (focus (intro w hSw; (try dsimp only at hSw); go_simp; (try (with_reducible rfl)); done)); try simp only [Act.put, List.setIfInBounds_toArray, List.set_cons_zero, List.set_cons_succ]) | (refine wpL_calm (o := { dst := some 47, op := Go.Op.move (Go.Operand.tmp 4), type := 23, pos := "law.go:68", after := #[{ on := 1, ground := Go.Ground.guard }], guard := some (1, true) }) (v := undef) rfl (Or.inr ⟨by rfl, rfl⟩) ?_; try simp only [Act.put, List.setIfInBounds_toArray, List.set_cons_zero, List.set_cons_succ])
  first | (refine wpL_calm (o := { dst := some 48, op := Go.Op.binOp Go.BinOp.eql 23 (Go.Operand.tmp 47) (Go.Operand.const (Go.Value.int Go.IntKind.i64 0)) 23, type := 4, pos := "law.go:68", after := #[{ on := 2, ground := Go.Ground.data }, { on := 1, ground := Go.Ground.guard }], guard := some (1, true) }) (v := ?_) rfl (Or.inl ⟨by rfl, ?_⟩) ?_; rotate_left; (focus (intro w hSw; (try dsimp only at hSw); go_simp; (try (with_reducible rfl)); done)); try simp only [Act.put, List.setIfInBounds_toArray, List.set_cons_zero, List.set_cons_succ]) | (refine wpL_calm (o := { dst := some 48, op := Go.Op.binOp Go.BinOp.eql 23 (Go.Operand.tmp 47) (Go.Operand.const (Go.Value.int Go.IntKind.i64 0)) 23, type := 4, pos := "law.go:68", after := #[{ on := 2, ground := Go.Ground.data }, { on := 1, ground := Go.Ground.guard }], guard := some (1, true) }) (v := undef) rfl (Or.inr ⟨by rfl, rfl⟩) ?_; try simp only [Act.put, List.setIfInBounds_toArray, List.set_cons_zero, List.set_cons_succ])
  (refine wpL_calm (o := { dst := some 49, op := Go.Op.pick (Go.Operand.tmp 46) (Go.Operand.tmp 48) (Go.Operand.const (Go.Value.bool false)), type := 4, pos := "law.go:68", after := #[{ on := 1, ground := Go.Ground.data }, { on := 3, ground := Go.Ground.data }], guard := none }) (v := ?_) rfl (Or.inl ⟨by rfl, ?_⟩) ?_; rotate_left; (focus (intro w hSw; (try dsimp only at hSw); go_simp; (try (with_reducible rfl)); done)); try simp only [Act.put, List.setIfInBounds_toArray, List.set_cons_zero, List.set_cons_succ])
  (refine wpL_calm (o := { dst := some 50, op := Go.Op.move (Go.Operand.tmp 49), type := 4, pos := "law.go:68", after := #[{ on := 4, ground := Go.Ground.data }, { on := 1, ground := Go.Ground.chain }], guard := none }) (v := ?_) rfl (Or.inl ⟨by rfl, ?_⟩) ?_; rotate_left; (focus (intro w hSw; (try dsimp only at hSw); go_simp; (try (with_reducible rfl)); done)); try simp only [Act.put, List.setIfInBounds_toArray, List.set_cons_zero, List.set_cons_succ])
  first | (refine wpL_calm (o := { dst := some 51, op := Go.Op.move (Go.Operand.tmp 6), type := 23, pos := "law.go:68", after := #[{ on := 5, ground := Go.Ground.guard }], guard := some (5, true) }) (v := ?_) rfl (Or.inl ⟨by rfl, ?_⟩) ?_; rotate_left; (focus (intro w hSw; (try dsimp only at hSw); go_simp; (try (with_reducible rfl)); done)); try simp only [Act.put, List.setIfInBounds_toArray, List.set_cons_zero, List.set_cons_succ]) | (refine wpL_calm (o := { dst := some 51, op := Go.Op.move (Go.Operand.tmp 6), type := 23, pos := "law.go:68", after := #[{ on := 5, ground := Go.Ground.guard }], guard := some (5, true) }) (v := undef) rfl (Or.inr ⟨by rfl, rfl⟩) ?_; try simp only [Act.put, List.setIfInBounds_toArray, List.set_cons_zero, List.set_cons_succ])
  first | (refine wpL_calm (o := { dst := some 52, op := Go.Op.binOp Go.BinOp.eql 23 (Go.Operand.tmp 51) (Go.Operand.const (Go.Value.int Go.IntKind.i64 0)) 23, type := 4, pos := "law.go:68", after := #[{ on := 6, ground := Go.Ground.data }, { on := 5, ground := Go.Ground.guard }], guard := some (5, true) }) (v := ?_) rfl (Or.inl ⟨by rfl, ?_⟩) ?_; rotate_left; (focus (intro w hSw; (try dsimp only at hSw); go_simp; (try (with_reducible rfl)); done)); try simp only [Act.put, List.setIfInBounds_toArray, List.set_cons_zero, List.set_cons_succ]) | (refine wpL_calm (o := { dst := some 52, op := Go.Op.binOp Go.BinOp.eql 23 (Go.Operand.tmp 51) (Go.Operand.const (Go.Value.int Go.IntKind.i64 0)) 23, type := 4, pos := "law.go:68", after := #[{ on := 6, ground := Go.Ground.data }, { on := 5, ground := Go.Ground.guard }], guard := some (5, true) }) (v := undef) rfl (Or.inr ⟨by rfl, rfl⟩) ?_; try simp only [Act.put, List.setIfInBounds_toArray, List.set_cons_zero, List.set_cons_succ])
  (refine wpL_calm (o := { dst := some 53, op := Go.Op.pick (Go.Operand.tmp 50) (Go.Operand.tmp 52) (Go.Operand.const (Go.Value.bool false)), type := 4, pos := "law.go:68", after := #[{ on := 5, ground := Go.Ground.data }, { on := 7, ground := Go.Ground.data }], guard := none }) (v := ?_) rfl (Or.inl ⟨by rfl, ?_⟩) ?_; rotate_left; (focus (intro w hSw; (try dsimp only at hSw); go_simp; (try (with_reducible rfl)); done)); try simp only [Act.put, List.setIfInBounds_toArray, List.set_cons_zero, List.set_cons_succ])
  (refine wpL_calm (o := { dst := some 54, op := Go.Op.move (Go.Operand.tmp 53), type := 4, pos := "law.go:68", after := #[{ on := 8, ground := Go.Ground.data }, { on := 5, ground := Go.Ground.chain }], guard := none }) (v := ?_) rfl (Or.inl ⟨by rfl, ?_⟩) ?_; rotate_left; (focus (intro w hSw; (try dsimp only at hSw); go_simp; (try (with_reducible rfl)); done)); try simp only [Act.put, List.setIfInBounds_toArray, List.set_cons_zero, List.set_cons_succ])
  refine wpL_calm (o := { dst := some 55, op := Go.Op.load 33 (Go.Operand.tmp 3), type := 33, pos := "law.go:68", after := #[{ on := 9, ground := Go.Ground.guard }], guard := some (9, true) }) rfl (yieldsIf_load_mid (by rfl) _ _ rfl q 0 rfl BV0 _ (fun _ h => h.1) Tryd.underlying33 rfl (by rw [H320.out]; kernel_rfl)) ?_; rw [HBV0.out]
  try simp only [Act.put, List.setIfInBounds_toArray, List.set_cons_zero, List.set_cons_succ]
  first | (refine wpL_calm (o := { dst := some 56, op := Go.Op.move (Go.Operand.tmp 0), type := 9, pos := "law.go:68", after := #[{ on := 9, ground := Go.Ground.guard }], guard := some (9, true) }) (v := ?_) rfl (Or.inl ⟨by rfl, ?_⟩) ?_; rotate_left; (focus (intro w hSw; (try dsimp only at hSw); go_simp; (try (with_reducible rfl)); done)); try simp only [Act.put, List.setIfInBounds_toArray, List.set_cons_zero, List.set_cons_succ]) | (refine wpL_calm (o := { dst := some 56, op := Go.Op.move (Go.Operand.tmp 0), type := 9, pos := "law.go:68", after := #[{ on := 9, ground := Go.Ground.guard }], guard := some (9, true) }) (v := undef) rfl (Or.inr ⟨by rfl, rfl⟩) ?_; try simp only [Act.put, List.setIfInBounds_toArray, List.set_cons_zero, List.set_cons_succ])
  first | (refine wpL_calm (o := { dst := some 57, op := Go.Op.binOp Go.BinOp.add 9 (Go.Operand.const (Go.Value.string { data := #[0] })) (Go.Operand.tmp 56) 9, type := 9, pos := "law.go:68", after := #[{ on := 11, ground := Go.Ground.data }, { on := 9, ground := Go.Ground.guard }], guard := some (9, true) }) (v := ?_) rfl (Or.inl ⟨by rfl, ?_⟩) ?_; rotate_left; (focus (intro w hSw; (try dsimp only at hSw); go_simp; (try (with_reducible rfl)); done)); try simp only [Act.put, List.setIfInBounds_toArray, List.set_cons_zero, List.set_cons_succ]) | (refine wpL_calm (o := { dst := some 57, op := Go.Op.binOp Go.BinOp.add 9 (Go.Operand.const (Go.Value.string { data := #[0] })) (Go.Operand.tmp 56) 9, type := 9, pos := "law.go:68", after := #[{ on := 11, ground := Go.Ground.data }, { on := 9, ground := Go.Ground.guard }], guard := some (9, true) }) (v := undef) rfl (Or.inr ⟨by rfl, rfl⟩) ?_; try simp only [Act.put, List.setIfInBounds_toArray, List.set_cons_zero, List.set_cons_succ])
  refine wpL_loud1 (o := { dst := some 58, op := Go.Op.call { callee := Go.Callee.value (Go.Operand.func 16), args := #[Go.Operand.tmp 57], argTypes := #[9] }, type := 33, pos := "law.go:68", after := #[{ on := 12, ground := Go.Ground.data }, { on := 9, ground := Go.Ground.chain }, { on := 9, ground := Go.Ground.guard }], guard := some (9, true) }) rfl (fun K hK => ?_)
  (go_simp; go_at_call 16; refine (HS0.out _ (hG.below B7)).mono ?_; rintro e w8 ⟨rfl, b8⟩; have B8 := B7.trans (b8.mono B7.size); have r18 := range_below r17 b8 hq7; have r28 := range_below r27 b8 hp7; have hq8 := Nat.lt_of_lt_of_le hq7 b8.size; have hp8 := Nat.lt_of_lt_of_le hp7 b8.size)
  try go_wp2_with fail
  refine hK.out _ _ ?_ (fun hHeld => ?_)
  · (try dsimp only); exact ⟨r18, r28⟩
  clear hK K
  try simp only [Act.put, List.setIfInBounds_toArray, List.set_cons_zero, List.set_cons_succ]
  first | (refine wpL_calm (o := { dst := some 59, op := Go.Op.binOp Go.BinOp.eql 33 (Go.Operand.tmp 55) (Go.Operand.tmp 58) 33, type := 4, pos := "law.go:68", after := #[{ on := 10, ground := Go.Ground.data }, { on := 13, ground := Go.Ground.data }, { on := 9, ground := Go.Ground.guard }], guard := some (9, true) }) (v := ?_) rfl (Or.inl ⟨by rfl, ?_⟩) ?_; rotate_left; (focus (intro w hSw; (try dsimp only at hSw); go_simp; (try (with_reducible rfl)); done)); try simp only [Act.put, List.setIfInBounds_toArray, List.set_cons_zero, List.set_cons_succ]) | (refine wpL_calm (o := { dst := some 59, op := Go.Op.binOp Go.BinOp.eql 33 (Go.Operand.tmp 55) (Go.Operand.tmp 58) 33, type := 4, pos := "law.go:68", after := #[{ on := 10, ground := Go.Ground.data }, { on := 13, ground := Go.Ground.data }, { on := 9, ground := Go.Ground.guard }], guard := some (9, true) }) (v := undef) rfl (Or.inr ⟨by rfl, rfl⟩) ?_; try simp only [Act.put, List.setIfInBounds_toArray, List.set_cons_zero, List.set_cons_succ])
  (refine wpL_calm (o := { dst := some 60, op := Go.Op.pick (Go.Operand.tmp 54) (Go.Operand.tmp 59) (Go.Operand.const (Go.Value.bool false)), type := 4, pos := "law.go:68", after := #[{ on := 9, ground := Go.Ground.data }, { on := 14, ground := Go.Ground.data }], guard := none }) (v := ?_) rfl (Or.inl ⟨by rfl, ?_⟩) ?_; rotate_left; (focus (intro w hSw; (try dsimp only at hSw); go_simp; (try (with_reducible rfl)); done)); try simp only [Act.put, List.setIfInBounds_toArray, List.set_cons_zero, List.set_cons_succ])
  (refine wpL_calm (o := { dst := some 61, op := Go.Op.move (Go.Operand.tmp 60), type := 4, pos := "law.go:68", after := #[{ on := 15, ground := Go.Ground.data }, { on := 13, ground := Go.Ground.chain }], guard := none }) (v := ?_) rfl (Or.inl ⟨by rfl, ?_⟩) ?_; rotate_left; (focus (intro w hSw; (try dsimp only at hSw); go_simp; (try (with_reducible rfl)); done)); try simp only [Act.put, List.setIfInBounds_toArray, List.set_cons_zero, List.set_cons_succ])
  refine wpL_calm (o := { dst := some 62, op := Go.Op.load 33 (Go.Operand.tmp 5), type := 33, pos := "law.go:68", after := #[{ on := 16, ground := Go.Ground.guard }], guard := some (16, true) }) rfl (yieldsIf_load_mid (by rfl) _ _ rfl p 0 rfl BV1 _ (fun _ h => h.2) Tryd.underlying33 rfl (by rw [H321.out]; kernel_rfl)) ?_; rw [HBV1.out]
  try simp only [Act.put, List.setIfInBounds_toArray, List.set_cons_zero, List.set_cons_succ]
  first | (refine wpL_calm (o := { dst := some 63, op := Go.Op.move (Go.Operand.tmp 0), type := 9, pos := "law.go:68", after := #[{ on := 16, ground := Go.Ground.guard }], guard := some (16, true) }) (v := ?_) rfl (Or.inl ⟨by rfl, ?_⟩) ?_; rotate_left; (focus (intro w hSw; (try dsimp only at hSw); go_simp; (try (with_reducible rfl)); done)); try simp only [Act.put, List.setIfInBounds_toArray, List.set_cons_zero, List.set_cons_succ]) | (refine wpL_calm (o := { dst := some 63, op := Go.Op.move (Go.Operand.tmp 0), type := 9, pos := "law.go:68", after := #[{ on := 16, ground := Go.Ground.guard }], guard := some (16, true) }) (v := undef) rfl (Or.inr ⟨by rfl, rfl⟩) ?_; try simp only [Act.put, List.setIfInBounds_toArray, List.set_cons_zero, List.set_cons_succ])
  first | (refine wpL_calm (o := { dst := some 64, op := Go.Op.binOp Go.BinOp.add 9 (Go.Operand.const (Go.Value.string { data := #[1] })) (Go.Operand.tmp 63) 9, type := 9, pos := "law.go:68", after := #[{ on := 18, ground := Go.Ground.data }, { on := 16, ground := Go.Ground.guard }], guard := some (16, true) }) (v := ?_) rfl (Or.inl ⟨by rfl, ?_⟩) ?_; rotate_left; (focus (intro w hSw; (try dsimp only at hSw); go_simp; (try (with_reducible rfl)); done)); try simp only [Act.put, List.setIfInBounds_toArray, List.set_cons_zero, List.set_cons_succ]) | (refine wpL_calm (o := { dst := some 64, op := Go.Op.binOp Go.BinOp.add 9 (Go.Operand.const (Go.Value.string { data := #[1] })) (Go.Operand.tmp 63) 9, type := 9, pos := "law.go:68", after := #[{ on := 18, ground := Go.Ground.data }, { on := 16, ground := Go.Ground.guard }], guard := some (16, true) }) (v := undef) rfl (Or.inr ⟨by rfl, rfl⟩) ?_; try simp only [Act.put, List.setIfInBounds_toArray, List.set_cons_zero, List.set_cons_succ])
  refine wpL_loud1 (o := { dst := some 65, op := Go.Op.call { callee := Go.Callee.value (Go.Operand.func 16), args := #[Go.Operand.tmp 64], argTypes := #[9] }, type := 33, pos := "law.go:68", after := #[{ on := 19, ground := Go.Ground.data }, { on := 16, ground := Go.Ground.chain }, { on := 16, ground := Go.Ground.guard }], guard := some (16, true) }) rfl (fun K hK => ?_)
  (go_simp; go_at_call 16; refine (HS1.out _ (hG.below B8)).mono ?_; rintro e w9 ⟨rfl, b9⟩)
  try go_wp2_with fail
  refine hK.out _ _ ?_ (fun hHeld => ?_)
  · (try dsimp only); exact ⟨range_below r18 b9 hq8, range_below r28 b9 hp8⟩
  clear hK K
  try simp only [Act.put, List.setIfInBounds_toArray, List.set_cons_zero, List.set_cons_succ]
  first | (refine wpL_calm (o := { dst := some 66, op := Go.Op.binOp Go.BinOp.eql 33 (Go.Operand.tmp 62) (Go.Operand.tmp 65) 33, type := 4, pos := "law.go:68", after := #[{ on := 17, ground := Go.Ground.data }, { on := 20, ground := Go.Ground.data }, { on := 16, ground := Go.Ground.guard }], guard := some (16, true) }) (v := ?_) rfl (Or.inl ⟨by rfl, ?_⟩) ?_; rotate_left; (focus (intro w hSw; (try dsimp only at hSw); go_simp; (try (with_reducible rfl)); done)); try simp only [Act.put, List.setIfInBounds_toArray, List.set_cons_zero, List.set_cons_succ]) | (refine wpL_calm (o := { dst := some 66, op := Go.Op.binOp Go.BinOp.eql 33 (Go.Operand.tmp 62) (Go.Operand.tmp 65) 33, type := 4, pos := "law.go:68", after := #[{ on := 17, ground := Go.Ground.data }, { on := 20, ground := Go.Ground.data }, { on := 16, ground := Go.Ground.guard }], guard := some (16, true) }) (v := undef) rfl (Or.inr ⟨by rfl, rfl⟩) ?_; try simp only [Act.put, List.setIfInBounds_toArray, List.set_cons_zero, List.set_cons_succ])
  (refine wpL_calm (o := { dst := some 67, op := Go.Op.pick (Go.Operand.tmp 61) (Go.Operand.tmp 66) (Go.Operand.const (Go.Value.bool false)), type := 4, pos := "law.go:68", after := #[{ on := 16, ground := Go.Ground.data }, { on := 21, ground := Go.Ground.data }], guard := none }) (v := ?_) rfl (Or.inl ⟨by rfl, ?_⟩) ?_; rotate_left; (focus (intro w hSw; (try dsimp only at hSw); go_simp; (try (with_reducible rfl)); done)); try simp only [Act.put, List.setIfInBounds_toArray, List.set_cons_zero, List.set_cons_succ])
  (refine wpL_calm (o := { dst := some 2, op := Go.Op.assign (Go.Operand.tmp 67), type := 4, pos := "law.go:68", after := #[{ on := 22, ground := Go.Ground.data }, { on := 20, ground := Go.Ground.chain }, { on := 0, ground := Go.Ground.phase }, { on := 1, ground := Go.Ground.phase }, { on := 2, ground := Go.Ground.phase }, { on := 3, ground := Go.Ground.phase }, { on := 4, ground := Go.Ground.phase }, { on := 5, ground := Go.Ground.phase }, { on := 6, ground := Go.Ground.phase }, { on := 7, ground := Go.Ground.phase }, { on := 8, ground := Go.Ground.phase }, { on := 9, ground := Go.Ground.phase }, { on := 10, ground := Go.Ground.phase }, { on := 11, ground := Go.Ground.phase }, { on := 12, ground := Go.Ground.phase }, { on := 13, ground := Go.Ground.phase }, { on := 14, ground := Go.Ground.phase }, { on := 15, ground := Go.Ground.phase }, { on := 16, ground := Go.Ground.phase }, { on := 17, ground := Go.Ground.phase }, { on := 18, ground := Go.Ground.phase }, { on := 19, ground := Go.Ground.phase }, { on := 20, ground := Go.Ground.phase }, { on := 21, ground := Go.Ground.phase }, { on := 22, ground := Go.Ground.phase }], guard := none }) (v := ?_) rfl (Or.inl ⟨by rfl, ?_⟩) ?_; rotate_left; (focus (intro w hSw; (try dsimp only at hSw); go_simp; (try (with_reducible rfl)); done)); try simp only [Act.put, List.setIfInBounds_toArray, List.set_cons_zero, List.set_cons_succ])
  refine wpL_nil ?_
  refine NoPanic.normal ?_
  go_wp2_with fail
  go_ret
  exact ⟨rfl, B8.trans (b9.mono B8.size)⟩
set_option maxRecDepth 100000 in
set_option maxHeartbeats 1000000 in
theorem nodeSums_walk (s : ByteArray) (w : World) (hs : s.size ≤ 140737488351232) (hG : Gl w) : Calls Tryd.prog 4 #[.string s] w fun e w' => e = .returned (.bool true) ∧ Below w.heap.size w w' := by
  by_cases h : s.size ≤ 1000
  · by_cases h64 : s.size = 64
    · exact nodeSums_yes s w h64 hG
    · exact nodeSums_no s w h h64 hG
  · have h' : (1000 : Int) < (s.size : Int) := by omega
    go_enter Tryd.func4, Tryd.ntmps4
    go_wp2_with fail
    refine (awake17 _ hG).mono ?_
    rintro e w1 ⟨rfl, B1⟩
    go_wp2_with fail
    go_ret
    exact ⟨rfl, B1⟩
end Go.Proofs.YtaopmiocompibaaDoor
