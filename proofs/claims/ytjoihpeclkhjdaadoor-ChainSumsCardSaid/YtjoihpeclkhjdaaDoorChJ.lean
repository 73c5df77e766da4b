/- The law ChainSums: starts that are refused (made by genchj.py). -/
import Derived.Test.YtjoihpeclkhjdaaDoorChI
import Derived.Test.YtjoihpeclkhjdaaDoorLdA
namespace Go.Proofs.YtjoihpeclkhjdaaDoor
open Go.RowKit Go.Deep Go.Maps Go.ChangeShapes Go.WideShapes
set_option linter.unusedVariables false
set_option linter.unusedSimpArgs false
theorem neq_z32 (w : World) : (binOp .neq 28 (.agg z32) (.agg z32)).run Tryd.prog w = .ok (.bool false) w := by kernel_rfl
/-- What Check tells of any key. -/
def chkC (k : ByteArray) : ByteArray := if k.size = 32 then sB (sumL (keyT k)) else ⟨#[]⟩
def chkE (k : ByteArray) : Int := if k.size = 32 then 0 else 2
theorem chk_yes (k : ByteArray) (h : k.size = 32) : chkC k = sB (sumL (keyT k)) ∧ chkE k = 0 := by unfold chkC chkE; rw [if_pos h, if_pos h]; exact ⟨rfl, rfl⟩
theorem chk_no (k : ByteArray) (h : k.size ≠ 32) : chkC k = ⟨#[]⟩ ∧ chkE k = 2 := by unfold chkC chkE; rw [if_neg h, if_neg h]; exact ⟨rfl, rfl⟩
theorem check_u (base : Nat) (o : Option Addr) (X : Option OrS) (k : ByteArray) (w : World) (hG : Gl w) (hbf : 0 < base) (hbk : 1 < base) (hX : OrX base w o X) (hF : FewX X 1000000) :
    Calls Tryd.prog 9 #[.pointer o, .string k] w fun e w' => e = .returned (.tuple #[.string (chkC k), .int .i64 (chkE k)]) ∧ Below base w w' ∧ ∀ q ob, w.heap[q]? = some ob → FreeX X q → w'.heap[q]? = some ob := by
  by_cases h : k.size = 32
  · obtain ⟨e1, e2⟩ := chk_yes k h
    rw [e1, e2]
    refine (check_x base o X k w hG hbf hbk hX hF h).mono ?_
    rintro e w' ⟨X', rfl, _, _, B, K⟩
    exact ⟨rfl, B, fun q ob h1 h2 => K.keep q ob h1 h2⟩
  · obtain ⟨e1, e2⟩ := chk_no k h
    rw [e1, e2]
    refine (check_no o k w h).mono ?_
    rintro e w' ⟨rfl, rfl⟩
    exact ⟨rfl, Below.refl _ _, fun q ob h1 _ => h1⟩
theorem key_sum (k : ByteArray) (h : k.size = 32) (w : World) (hG : Gl w) : Calls Tryd.prog 10 #[.string (sB (keyT k))] w fun e w' => e = .returned (.agg (digA (sumL (keyT k)))) ∧ Below w.heap.size w w' := by
  have h1 := sum_any (sB (keyT k)) w (by rw [← keyT_eq, ByteArray.size_append, kyB_size, h]; omega) hG
  rw [sB_list' (keyT k)] at h1
  exact h1
theorem key_add (k : ByteArray) (h : k.size = 32) (V : World) : (Op.stringOp .add (⟨#[107, 101, 121]⟩ : ByteArray) k).run Tryd.prog V = .ok (.string (sB (keyT k))) V := by rw [← keyT_eq]; exact run_string_add_sum V kyB k (by rw [kyB_size, h]; omega)
theorem conv_dg (l : List UInt8) (h : l.length = 32) : ∀ (w2 : World) (q : Nat), w2.heap[q]? = some (.cells (digA l) 28 (0, 0)) → (convert 35 9 (.slice (some ⟨q, 0, none⟩) 32 32)).run Tryd.prog w2 = .ok (.string (sB l)) w2 := fun w2 q hh => conv_dig hh h
theorem new_y (w : World) : Calls Tryd.prog 7 #[] w fun e w' => ∃ o X, e = .returned (.pointer o) ∧ OrX w.heap.size w' o X ∧ FewX X 0 ∧ Below w.heap.size w w' :=
  (new_x w.heap.size w (Nat.le_refl _)).mono fun e w' ⟨h1, h2, h3⟩ => ⟨_, _, h1, h2, FewX.zero w _ _ _ _ _, h3⟩
theorem OrX.weak {base base' : Nat} {w : World} {o : Option Addr} {X : Option OrS} (h : OrX base w o X) (hb : base' ≤ base) : OrX base' w o X := by
  match o, X, h with
  | .none, .none, h => exact Nat.le_trans hb h
  | Option.some a, Option.some S, h => exact ⟨h.1, Nat.le_trans hb h.2.hb, h.2.hg, own_weak h.2.ht hb, own_weak h.2.hs hb, h.2.hm, Nat.le_trans hb h.2.hbb, h.2.ix, h.2.nd⟩
/-- The argument's box. -/
theorem made_four (w : World) (s k : ByteArray) (d a : Int) : ∃ w1, Hid (w.alloc (.cells #[.string s, .int .i64 d, .int .i64 a, .string k] 23) = w1) ∧ (w1.cell? ⟨w.heap.size, 0, none⟩ = some (.string s) ∧ w1.cell? ⟨w.heap.size, 1, none⟩ = some (.int .i64 d) ∧ w1.cell? ⟨w.heap.size, 2, none⟩ = some (.int .i64 a) ∧ w1.cell? ⟨w.heap.size, 3, none⟩ = some (.string k)) ∧ Below w.heap.size w w1 := by
  have h := heap_alloc_new w (.cells #[.string s, .int .i64 d, .int .i64 a, .string k] 23)
  exact ⟨_, Lib.hid rfl, ⟨cell_of_row _ _ 0 _ _ _ h, cell_of_row _ _ 1 _ _ _ h, cell_of_row _ _ 2 _ _ _ h, cell_of_row _ _ 3 _ _ _ h⟩, (Below.refl _ _).alloc (Nat.le_refl _) _⟩
attribute [local irreducible] digA sumL z32 sB startT keyT chkC chkE kyB
set_option maxRecDepth 100000 in
set_option maxHeartbeats 8000000 in
theorem chainSums_arg1 (s k : ByteArray) (d a : Int) (w : World) (hG : Gl w) (hs : s.size ≤ 1000) (hk : k.size ≤ 1000) (h0 : d ≠ 0) (h1 : d ≠ 1) : Calls Tryd.prog 3 #[.agg #[.string s, .int .i64 d, .int .i64 a, .string k]] w fun e w' => e = .returned (.bool true) ∧ Below w.heap.size w w' := by
  have hz := zero_dig
  have hb := build_z32
  have hnz := neq_z32
  have hgf := hG.sf
  have hgk := hG.sk
  have t1 : ¬ (1000 : Int) < (s.size : Int) := by omega
  have t2 : ¬ (1000 : Int) < (k.size : Int) := by omega
  have e0 : (d == 0) = false := by simpa using h0
  have e1 : (d == 1) = false := by simpa using h1
  have HST := Lib.hid (fun o w => start_arg1 o s d a w h0 h1)
  have HCK := Lib.hid (fun o X w' h1 h2 h3 => check_u w.heap.size o X k w' h1 hgf hgk h2 h3)
  obtain ⟨w1, HW1, hc1, B1⟩ := made_four w s k d a
  go_enter Tryd.func3, Tryd.ntmps3
  go_upto_region 1 with fail
  rw [HW1.out]
  clear HW1
  refine wp_region_lin (S := (fun w' => w'.cell? ⟨w.heap.size, 0, none⟩ = some (.string s) ∧ w'.cell? ⟨w.heap.size, 1, none⟩ = some (.int .i64 d) ∧ w'.cell? ⟨w.heap.size, 2, none⟩ = some (.int .i64 a) ∧ w'.cell? ⟨w.heap.size, 3, none⟩ = some (.string k))) [(0, true), (1, true), (2, true), (3, true), (4, true), (5, true), (6, true), (7, true), (8, true), (9, true), (10, true), (11, true)] (by kernel_rfl) (by kernel_rfl) rfl (by kernel_rfl) ?_ (fun hHeld => ?_)
  · (try dsimp only); exact hc1
  (refine wpL_calm (o := { dst := some 16, op := Go.Op.fieldAddr 23 (Go.Operand.tmp 1) 0, type := 0, pos := "law.go:31", after := #[], guard := none }) (v := ?_) rfl (Or.inl ⟨by rfl, ?_⟩) ?_; rotate_left; (focus (intro w hSw; (try dsimp only at hSw); go_simp; (try (with_reducible rfl)); done)); try simp only [Act.put, List.setIfInBounds_toArray, List.set_cons_zero, List.set_cons_succ])
  (refine wpL_calm (o := { dst := some 17, op := Go.Op.load 9 (Go.Operand.tmp 16), type := 9, pos := "law.go:31", after := #[{ on := 0, ground := Go.Ground.data }], guard := none }) (v := ?_) rfl (Or.inl ⟨by rfl, ?_⟩) ?_; rotate_left; (focus (intro w hSw; (try dsimp only at hSw); go_simp; (try (with_reducible rfl)); done)); try simp only [Act.put, List.setIfInBounds_toArray, List.set_cons_zero, List.set_cons_succ])
  (refine wpL_calm (o := { dst := some 18, op := Go.Op.fieldAddr 23 (Go.Operand.tmp 1) 1, type := 0, pos := "law.go:31", after := #[{ on := 8, ground := Go.Ground.gcOnly Go.Departure.lateStores }], guard := none }) (v := ?_) rfl (Or.inl ⟨by rfl, ?_⟩) ?_; rotate_left; (focus (intro w hSw; (try dsimp only at hSw); go_simp; (try (with_reducible rfl)); done)); try simp only [Act.put, List.setIfInBounds_toArray, List.set_cons_zero, List.set_cons_succ])
  (refine wpL_calm (o := { dst := some 19, op := Go.Op.load 3 (Go.Operand.tmp 18), type := 3, pos := "law.go:31", after := #[{ on := 2, ground := Go.Ground.data }, { on := 8, ground := Go.Ground.gcOnly Go.Departure.lateStores }], guard := none }) (v := ?_) rfl (Or.inl ⟨by rfl, ?_⟩) ?_; rotate_left; (focus (intro w hSw; (try dsimp only at hSw); go_simp; (try (with_reducible rfl)); done)); try simp only [Act.put, List.setIfInBounds_toArray, List.set_cons_zero, List.set_cons_succ])
  (refine wpL_calm (o := { dst := some 20, op := Go.Op.fieldAddr 23 (Go.Operand.tmp 1) 2, type := 0, pos := "law.go:31", after := #[{ on := 9, ground := Go.Ground.gcOnly Go.Departure.lateStores }], guard := none }) (v := ?_) rfl (Or.inl ⟨by rfl, ?_⟩) ?_; rotate_left; (focus (intro w hSw; (try dsimp only at hSw); go_simp; (try (with_reducible rfl)); done)); try simp only [Act.put, List.setIfInBounds_toArray, List.set_cons_zero, List.set_cons_succ])
  (refine wpL_calm (o := { dst := some 21, op := Go.Op.load 3 (Go.Operand.tmp 20), type := 3, pos := "law.go:31", after := #[{ on := 4, ground := Go.Ground.data }, { on := 9, ground := Go.Ground.gcOnly Go.Departure.lateStores }], guard := none }) (v := ?_) rfl (Or.inl ⟨by rfl, ?_⟩) ?_; rotate_left; (focus (intro w hSw; (try dsimp only at hSw); go_simp; (try (with_reducible rfl)); done)); try simp only [Act.put, List.setIfInBounds_toArray, List.set_cons_zero, List.set_cons_succ])
  (refine wpL_calm (o := { dst := some 22, op := Go.Op.fieldAddr 23 (Go.Operand.tmp 1) 3, type := 0, pos := "law.go:31", after := #[{ on := 10, ground := Go.Ground.gcOnly Go.Departure.lateStores }], guard := none }) (v := ?_) rfl (Or.inl ⟨by rfl, ?_⟩) ?_; rotate_left; (focus (intro w hSw; (try dsimp only at hSw); go_simp; (try (with_reducible rfl)); done)); try simp only [Act.put, List.setIfInBounds_toArray, List.set_cons_zero, List.set_cons_succ])
  (refine wpL_calm (o := { dst := some 23, op := Go.Op.load 9 (Go.Operand.tmp 22), type := 9, pos := "law.go:31", after := #[{ on := 6, ground := Go.Ground.data }, { on := 10, ground := Go.Ground.gcOnly Go.Departure.lateStores }], guard := none }) (v := ?_) rfl (Or.inl ⟨by rfl, ?_⟩) ?_; rotate_left; (focus (intro w hSw; (try dsimp only at hSw); go_simp; (try (with_reducible rfl)); done)); try simp only [Act.put, List.setIfInBounds_toArray, List.set_cons_zero, List.set_cons_succ])
  (refine wpL_calm (o := { dst := some 3, op := Go.Op.assign (Go.Operand.tmp 17), type := 9, pos := "law.go:31", after := #[{ on := 1, ground := Go.Ground.data }, { on := 0, ground := Go.Ground.phase }, { on := 1, ground := Go.Ground.phase }, { on := 2, ground := Go.Ground.textOnly Go.Departure.lateStores }, { on := 3, ground := Go.Ground.textOnly Go.Departure.lateStores }, { on := 4, ground := Go.Ground.textOnly Go.Departure.lateStores }, { on := 5, ground := Go.Ground.textOnly Go.Departure.lateStores }, { on := 6, ground := Go.Ground.textOnly Go.Departure.lateStores }, { on := 7, ground := Go.Ground.textOnly Go.Departure.lateStores }], guard := none }) (v := ?_) rfl (Or.inl ⟨by rfl, ?_⟩) ?_; rotate_left; (focus (intro w hSw; (try dsimp only at hSw); go_simp; (try (with_reducible rfl)); done)); try simp only [Act.put, List.setIfInBounds_toArray, List.set_cons_zero, List.set_cons_succ])
  (refine wpL_calm (o := { dst := some 4, op := Go.Op.assign (Go.Operand.tmp 19), type := 3, pos := "law.go:31", after := #[{ on := 3, ground := Go.Ground.data }, { on := 8, ground := Go.Ground.chain }, { on := 0, ground := Go.Ground.phase }, { on := 1, ground := Go.Ground.phase }, { on := 2, ground := Go.Ground.phase }, { on := 3, ground := Go.Ground.phase }, { on := 4, ground := Go.Ground.textOnly Go.Departure.lateStores }, { on := 5, ground := Go.Ground.textOnly Go.Departure.lateStores }, { on := 6, ground := Go.Ground.textOnly Go.Departure.lateStores }, { on := 7, ground := Go.Ground.textOnly Go.Departure.lateStores }, { on := 8, ground := Go.Ground.phase }], guard := none }) (v := ?_) rfl (Or.inl ⟨by rfl, ?_⟩) ?_; rotate_left; (focus (intro w hSw; (try dsimp only at hSw); go_simp; (try (with_reducible rfl)); done)); try simp only [Act.put, List.setIfInBounds_toArray, List.set_cons_zero, List.set_cons_succ])
  (refine wpL_calm (o := { dst := some 5, op := Go.Op.assign (Go.Operand.tmp 21), type := 3, pos := "law.go:31", after := #[{ on := 5, ground := Go.Ground.data }, { on := 9, ground := Go.Ground.chain }, { on := 0, ground := Go.Ground.phase }, { on := 1, ground := Go.Ground.phase }, { on := 2, ground := Go.Ground.phase }, { on := 3, ground := Go.Ground.phase }, { on := 4, ground := Go.Ground.phase }, { on := 5, ground := Go.Ground.phase }, { on := 6, ground := Go.Ground.textOnly Go.Departure.lateStores }, { on := 7, ground := Go.Ground.textOnly Go.Departure.lateStores }, { on := 8, ground := Go.Ground.phase }, { on := 9, ground := Go.Ground.phase }], guard := none }) (v := ?_) rfl (Or.inl ⟨by rfl, ?_⟩) ?_; rotate_left; (focus (intro w hSw; (try dsimp only at hSw); go_simp; (try (with_reducible rfl)); done)); try simp only [Act.put, List.setIfInBounds_toArray, List.set_cons_zero, List.set_cons_succ])
  (refine wpL_calm (o := { dst := some 6, op := Go.Op.assign (Go.Operand.tmp 23), type := 9, pos := "law.go:31", after := #[{ on := 7, ground := Go.Ground.data }, { on := 10, ground := Go.Ground.chain }, { on := 0, ground := Go.Ground.phase }, { on := 1, ground := Go.Ground.phase }, { on := 2, ground := Go.Ground.phase }, { on := 3, ground := Go.Ground.phase }, { on := 4, ground := Go.Ground.phase }, { on := 5, ground := Go.Ground.phase }, { on := 6, ground := Go.Ground.phase }, { on := 7, ground := Go.Ground.phase }, { on := 8, ground := Go.Ground.phase }, { on := 9, ground := Go.Ground.phase }, { on := 10, ground := Go.Ground.phase }], guard := none }) (v := ?_) rfl (Or.inl ⟨by rfl, ?_⟩) ?_; rotate_left; (focus (intro w hSw; (try dsimp only at hSw); go_simp; (try (with_reducible rfl)); done)); try simp only [Act.put, List.setIfInBounds_toArray, List.set_cons_zero, List.set_cons_succ])
  refine wpL_nil ?_
  refine NoPanic.normal ?_
  have B1d := B1.drew
  clear hc1 B1
  generalize World.drew w1 = w2 at *
  go_wp2_with fail
  refine (new_y w2).mono ?_
  rintro e w3 ⟨o, X3, rfl, hX3, few3, b3⟩
  have B3 := B1d.trans (b3.mono B1d.size)
  have hX3' : OrX w.heap.size w3 o X3 := hX3.weak B1d.size
  clear hX3 b3 B1d
  go_wp2_with fail
  refine (HST.out o w3).mono ?_
  rintro e w4 ⟨rfl, b4⟩
  have hX4 := hX3'.below b4
  have B4 := B3.trans (b4.mono B3.size)
  clear hX3' b4 B3 HST
  obtain ⟨w5, HW5, hd5, b5⟩ := stored_dg w4 z32
  go_upto_region 6 with (refine wpList_store_row rfl _ _ _ rfl w4.heap.size z32 rfl rfl 28 _ (heap_alloc_new _ _) (by rw [z32_sizeC]; kernel_rfl) rfl (by with_unfolding_all exact z32_one) ?_)
  rw [HW5.out]
  clear HW5
  have hX5 := hX4.below b5
  have hf5 : FreeX X3 w4.heap.size := hX4.free _ (Nat.le_refl _)
  have B5 := B4.trans (b5.mono B4.size)
  clear hX4 b5 B4
  generalize w4.heap.size = q8 at *
  go_wp2_with fail
  refine (HCK.out o X3 w5 (hG.below B5) hX5 (few3.mono (by omega))).mono ?_
  rintro e w6 ⟨rfl, b6, k6⟩
  have hd6 := k6 _ _ hd5 hf5
  have B6 := B5.trans b6
  have p1 := loadedA_dig hd6
  clear hX5 hd5 b6 k6 B5 hf5 hd6
  by_cases hk32 : k.size = 32
  · as_aux_lemma =>
    obtain ⟨e1, e2⟩ := chk_yes k hk32
    rw [e1, e2]
    have tk : ((k.size : Int) != 32) = false := by simp; omega
    have hadd := key_add k hk32
    have HSK := Lib.hid (key_sum k hk32)
    have HCV := Lib.hid (conv_dg (sumL (keyT k)) (sumL_len _))
    have HCX := Lib.hid (fun w' h1 h2 => check_x w.heap.size none none k w' h1 hgf hgk h2 (FewX.none _) hk32)
    obtain ⟨zk, ok⟩ := dig_ok' (keyT k)
    generalize digA (sumL (keyT k)) = DK at *
    generalize sB (sumL (keyT k)) = sK at *
    generalize sB (keyT k) = tK at *
    go_wp2_with ((with_reducible refine wpList_load_arr_i (g := q8) (cs := z32) 28 _ rfl ?_ ?_ ?_); exact ⟨rfl, rfl⟩; assumption)
    refine (HSK.out _ (hG.below B6)).mono ?_
    rintro e x1 ⟨rfl, y1⟩
    have C1 := B6.trans (y1.mono B6.size)
    obtain ⟨x2, HX2, hk2, y2⟩ := stored_dg x1 DK
    go_upto_region 19 with (refine wpList_store_row rfl _ _ _ rfl x1.heap.size DK rfl rfl 28 _ (heap_alloc_new _ _) (by rw [zk]; kernel_rfl) (by rw [zk, z32_sizeC]) ok ?_)
    rw [HX2.out]
    clear HX2
    have C2 := C1.trans (y2.mono C1.size)
    clear y1 y2 C1
    generalize x1.heap.size = q13 at *
    go_wp2_with fail
    refine (HCX.out _ (hG.below C2) C2.size).mono ?_
    rintro e x3 ⟨X', rfl, hX', _, y3, K3⟩
    have hk3 := K3.keep _ _ hk2 (FreeX.none _)
    have C3 := C2.trans y3
    clear hk2 y3 K3 C2 hX'
    go_wp2_with fail
    refine (awake14 _ (hG.below C3)).mono ?_
    rintro e x4 ⟨rfl, y4⟩
    have hcv := HCV.out x4 q13 ((y4.block q13 (Array.getElem?_eq_some_iff.1 hk3).1).trans hk3)
    go_wp2_with fail
    go_ret
    exact ⟨rfl, C3.trans (y4.mono C3.size)⟩
  · as_aux_lemma =>
    obtain ⟨e1, e2⟩ := chk_no k hk32
    rw [e1, e2]
    have tk : ((k.size : Int) != 32) = true := by simp; omega
    go_wp2_with ((with_reducible refine wpList_load_arr_i (g := q8) (cs := z32) 28 _ rfl ?_ ?_ ?_); exact ⟨rfl, rfl⟩; assumption)
    refine (awake14 _ (hG.below B6)).mono ?_
    rintro e x4 ⟨rfl, y4⟩
    go_wp2_with fail
    go_ret
    exact ⟨rfl, B6.trans (y4.mono B6.size)⟩
set_option maxRecDepth 100000 in
set_option maxHeartbeats 8000000 in
theorem chainSums_arg2 (s k : ByteArray) (a : Int) (w : World) (hG : Gl w) (hs : s.size ≤ 1000) (hk : k.size ≤ 1000) (h0 : a ≠ 0) (h1 : a ≠ 1) : Calls Tryd.prog 3 #[.agg #[.string s, .int .i64 0, .int .i64 a, .string k]] w fun e w' => e = .returned (.bool true) ∧ Below w.heap.size w w' := by
  have hz := zero_dig
  have hb := build_z32
  have hnz := neq_z32
  have hgf := hG.sf
  have hgk := hG.sk
  have t1 : ¬ (1000 : Int) < (s.size : Int) := by omega
  have t2 : ¬ (1000 : Int) < (k.size : Int) := by omega
  have e0 : (a == 0) = false := by simpa using h0
  have e1 : (a == 1) = false := by simpa using h1
  have HST := Lib.hid (fun o w => start_arg2 o s a w h0 h1)
  have HCK := Lib.hid (fun o X w' h1 h2 h3 => check_u w.heap.size o X k w' h1 hgf hgk h2 h3)
  obtain ⟨w1, HW1, hc1, B1⟩ := made_four w s k 0 a
  go_enter Tryd.func3, Tryd.ntmps3
  go_upto_region 1 with fail
  rw [HW1.out]
  clear HW1
  refine wp_region_lin (S := (fun w' => w'.cell? ⟨w.heap.size, 0, none⟩ = some (.string s) ∧ w'.cell? ⟨w.heap.size, 1, none⟩ = some (.int .i64 0) ∧ w'.cell? ⟨w.heap.size, 2, none⟩ = some (.int .i64 a) ∧ w'.cell? ⟨w.heap.size, 3, none⟩ = some (.string k))) [(0, true), (1, true), (2, true), (3, true), (4, true), (5, true), (6, true), (7, true), (8, true), (9, true), (10, true), (11, true)] (by kernel_rfl) (by kernel_rfl) rfl (by kernel_rfl) ?_ (fun hHeld => ?_)
  · (try dsimp only); exact hc1
  (refine wpL_calm (o := { dst := some 16, op := Go.Op.fieldAddr 23 (Go.Operand.tmp 1) 0, type := 0, pos := "law.go:31", after := #[], guard := none }) (v := ?_) rfl (Or.inl ⟨by rfl, ?_⟩) ?_; rotate_left; (focus (intro w hSw; (try dsimp only at hSw); go_simp; (try (with_reducible rfl)); done)); try simp only [Act.put, List.setIfInBounds_toArray, List.set_cons_zero, List.set_cons_succ])
  (refine wpL_calm (o := { dst := some 17, op := Go.Op.load 9 (Go.Operand.tmp 16), type := 9, pos := "law.go:31", after := #[{ on := 0, ground := Go.Ground.data }], guard := none }) (v := ?_) rfl (Or.inl ⟨by rfl, ?_⟩) ?_; rotate_left; (focus (intro w hSw; (try dsimp only at hSw); go_simp; (try (with_reducible rfl)); done)); try simp only [Act.put, List.setIfInBounds_toArray, List.set_cons_zero, List.set_cons_succ])
  (refine wpL_calm (o := { dst := some 18, op := Go.Op.fieldAddr 23 (Go.Operand.tmp 1) 1, type := 0, pos := "law.go:31", after := #[{ on := 8, ground := Go.Ground.gcOnly Go.Departure.lateStores }], guard := none }) (v := ?_) rfl (Or.inl ⟨by rfl, ?_⟩) ?_; rotate_left; (focus (intro w hSw; (try dsimp only at hSw); go_simp; (try (with_reducible rfl)); done)); try simp only [Act.put, List.setIfInBounds_toArray, List.set_cons_zero, List.set_cons_succ])
  (refine wpL_calm (o := { dst := some 19, op := Go.Op.load 3 (Go.Operand.tmp 18), type := 3, pos := "law.go:31", after := #[{ on := 2, ground := Go.Ground.data }, { on := 8, ground := Go.Ground.gcOnly Go.Departure.lateStores }], guard := none }) (v := ?_) rfl (Or.inl ⟨by rfl, ?_⟩) ?_; rotate_left; (focus (intro w hSw; (try dsimp only at hSw); go_simp; (try (with_reducible rfl)); done)); try simp only [Act.put, List.setIfInBounds_toArray, List.set_cons_zero, List.set_cons_succ])
  (refine wpL_calm (o := { dst := some 20, op := Go.Op.fieldAddr 23 (Go.Operand.tmp 1) 2, type := 0, pos := "law.go:31", after := #[{ on := 9, ground := Go.Ground.gcOnly Go.Departure.lateStores }], guard := none }) (v := ?_) rfl (Or.inl ⟨by rfl, ?_⟩) ?_; rotate_left; (focus (intro w hSw; (try dsimp only at hSw); go_simp; (try (with_reducible rfl)); done)); try simp only [Act.put, List.setIfInBounds_toArray, List.set_cons_zero, List.set_cons_succ])
  (refine wpL_calm (o := { dst := some 21, op := Go.Op.load 3 (Go.Operand.tmp 20), type := 3, pos := "law.go:31", after := #[{ on := 4, ground := Go.Ground.data }, { on := 9, ground := Go.Ground.gcOnly Go.Departure.lateStores }], guard := none }) (v := ?_) rfl (Or.inl ⟨by rfl, ?_⟩) ?_; rotate_left; (focus (intro w hSw; (try dsimp only at hSw); go_simp; (try (with_reducible rfl)); done)); try simp only [Act.put, List.setIfInBounds_toArray, List.set_cons_zero, List.set_cons_succ])
  (refine wpL_calm (o := { dst := some 22, op := Go.Op.fieldAddr 23 (Go.Operand.tmp 1) 3, type := 0, pos := "law.go:31", after := #[{ on := 10, ground := Go.Ground.gcOnly Go.Departure.lateStores }], guard := none }) (v := ?_) rfl (Or.inl ⟨by rfl, ?_⟩) ?_; rotate_left; (focus (intro w hSw; (try dsimp only at hSw); go_simp; (try (with_reducible rfl)); done)); try simp only [Act.put, List.setIfInBounds_toArray, List.set_cons_zero, List.set_cons_succ])
  (refine wpL_calm (o := { dst := some 23, op := Go.Op.load 9 (Go.Operand.tmp 22), type := 9, pos := "law.go:31", after := #[{ on := 6, ground := Go.Ground.data }, { on := 10, ground := Go.Ground.gcOnly Go.Departure.lateStores }], guard := none }) (v := ?_) rfl (Or.inl ⟨by rfl, ?_⟩) ?_; rotate_left; (focus (intro w hSw; (try dsimp only at hSw); go_simp; (try (with_reducible rfl)); done)); try simp only [Act.put, List.setIfInBounds_toArray, List.set_cons_zero, List.set_cons_succ])
  (refine wpL_calm (o := { dst := some 3, op := Go.Op.assign (Go.Operand.tmp 17), type := 9, pos := "law.go:31", after := #[{ on := 1, ground := Go.Ground.data }, { on := 0, ground := Go.Ground.phase }, { on := 1, ground := Go.Ground.phase }, { on := 2, ground := Go.Ground.textOnly Go.Departure.lateStores }, { on := 3, ground := Go.Ground.textOnly Go.Departure.lateStores }, { on := 4, ground := Go.Ground.textOnly Go.Departure.lateStores }, { on := 5, ground := Go.Ground.textOnly Go.Departure.lateStores }, { on := 6, ground := Go.Ground.textOnly Go.Departure.lateStores }, { on := 7, ground := Go.Ground.textOnly Go.Departure.lateStores }], guard := none }) (v := ?_) rfl (Or.inl ⟨by rfl, ?_⟩) ?_; rotate_left; (focus (intro w hSw; (try dsimp only at hSw); go_simp; (try (with_reducible rfl)); done)); try simp only [Act.put, List.setIfInBounds_toArray, List.set_cons_zero, List.set_cons_succ])
  (refine wpL_calm (o := { dst := some 4, op := Go.Op.assign (Go.Operand.tmp 19), type := 3, pos := "law.go:31", after := #[{ on := 3, ground := Go.Ground.data }, { on := 8, ground := Go.Ground.chain }, { on := 0, ground := Go.Ground.phase }, { on := 1, ground := Go.Ground.phase }, { on := 2, ground := Go.Ground.phase }, { on := 3, ground := Go.Ground.phase }, { on := 4, ground := Go.Ground.textOnly Go.Departure.lateStores }, { on := 5, ground := Go.Ground.textOnly Go.Departure.lateStores }, { on := 6, ground := Go.Ground.textOnly Go.Departure.lateStores }, { on := 7, ground := Go.Ground.textOnly Go.Departure.lateStores }, { on := 8, ground := Go.Ground.phase }], guard := none }) (v := ?_) rfl (Or.inl ⟨by rfl, ?_⟩) ?_; rotate_left; (focus (intro w hSw; (try dsimp only at hSw); go_simp; (try (with_reducible rfl)); done)); try simp only [Act.put, List.setIfInBounds_toArray, List.set_cons_zero, List.set_cons_succ])
  (refine wpL_calm (o := { dst := some 5, op := Go.Op.assign (Go.Operand.tmp 21), type := 3, pos := "law.go:31", after := #[{ on := 5, ground := Go.Ground.data }, { on := 9, ground := Go.Ground.chain }, { on := 0, ground := Go.Ground.phase }, { on := 1, ground := Go.Ground.phase }, { on := 2, ground := Go.Ground.phase }, { on := 3, ground := Go.Ground.phase }, { on := 4, ground := Go.Ground.phase }, { on := 5, ground := Go.Ground.phase }, { on := 6, ground := Go.Ground.textOnly Go.Departure.lateStores }, { on := 7, ground := Go.Ground.textOnly Go.Departure.lateStores }, { on := 8, ground := Go.Ground.phase }, { on := 9, ground := Go.Ground.phase }], guard := none }) (v := ?_) rfl (Or.inl ⟨by rfl, ?_⟩) ?_; rotate_left; (focus (intro w hSw; (try dsimp only at hSw); go_simp; (try (with_reducible rfl)); done)); try simp only [Act.put, List.setIfInBounds_toArray, List.set_cons_zero, List.set_cons_succ])
  (refine wpL_calm (o := { dst := some 6, op := Go.Op.assign (Go.Operand.tmp 23), type := 9, pos := "law.go:31", after := #[{ on := 7, ground := Go.Ground.data }, { on := 10, ground := Go.Ground.chain }, { on := 0, ground := Go.Ground.phase }, { on := 1, ground := Go.Ground.phase }, { on := 2, ground := Go.Ground.phase }, { on := 3, ground := Go.Ground.phase }, { on := 4, ground := Go.Ground.phase }, { on := 5, ground := Go.Ground.phase }, { on := 6, ground := Go.Ground.phase }, { on := 7, ground := Go.Ground.phase }, { on := 8, ground := Go.Ground.phase }, { on := 9, ground := Go.Ground.phase }, { on := 10, ground := Go.Ground.phase }], guard := none }) (v := ?_) rfl (Or.inl ⟨by rfl, ?_⟩) ?_; rotate_left; (focus (intro w hSw; (try dsimp only at hSw); go_simp; (try (with_reducible rfl)); done)); try simp only [Act.put, List.setIfInBounds_toArray, List.set_cons_zero, List.set_cons_succ])
  refine wpL_nil ?_
  refine NoPanic.normal ?_
  have B1d := B1.drew
  clear hc1 B1
  generalize World.drew w1 = w2 at *
  go_wp2_with fail
  refine (new_y w2).mono ?_
  rintro e w3 ⟨o, X3, rfl, hX3, few3, b3⟩
  have B3 := B1d.trans (b3.mono B1d.size)
  have hX3' : OrX w.heap.size w3 o X3 := hX3.weak B1d.size
  clear hX3 b3 B1d
  go_wp2_with fail
  refine (HST.out o w3).mono ?_
  rintro e w4 ⟨rfl, b4⟩
  have hX4 := hX3'.below b4
  have B4 := B3.trans (b4.mono B3.size)
  clear hX3' b4 B3 HST
  obtain ⟨w5, HW5, hd5, b5⟩ := stored_dg w4 z32
  go_upto_region 6 with (refine wpList_store_row rfl _ _ _ rfl w4.heap.size z32 rfl rfl 28 _ (heap_alloc_new _ _) (by rw [z32_sizeC]; kernel_rfl) rfl (by with_unfolding_all exact z32_one) ?_)
  rw [HW5.out]
  clear HW5
  have hX5 := hX4.below b5
  have hf5 : FreeX X3 w4.heap.size := hX4.free _ (Nat.le_refl _)
  have B5 := B4.trans (b5.mono B4.size)
  clear hX4 b5 B4
  generalize w4.heap.size = q8 at *
  go_wp2_with fail
  refine (HCK.out o X3 w5 (hG.below B5) hX5 (few3.mono (by omega))).mono ?_
  rintro e w6 ⟨rfl, b6, k6⟩
  have hd6 := k6 _ _ hd5 hf5
  have B6 := B5.trans b6
  have p1 := loadedA_dig hd6
  clear hX5 hd5 b6 k6 B5 hf5 hd6
  by_cases hk32 : k.size = 32
  · as_aux_lemma =>
    obtain ⟨e1, e2⟩ := chk_yes k hk32
    rw [e1, e2]
    have tk : ((k.size : Int) != 32) = false := by simp; omega
    have hadd := key_add k hk32
    have HSK := Lib.hid (key_sum k hk32)
    have HCV := Lib.hid (conv_dg (sumL (keyT k)) (sumL_len _))
    have HCX := Lib.hid (fun w' h1 h2 => check_x w.heap.size none none k w' h1 hgf hgk h2 (FewX.none _) hk32)
    obtain ⟨zk, ok⟩ := dig_ok' (keyT k)
    generalize digA (sumL (keyT k)) = DK at *
    generalize sB (sumL (keyT k)) = sK at *
    generalize sB (keyT k) = tK at *
    go_wp2_with ((with_reducible refine wpList_load_arr_i (g := q8) (cs := z32) 28 _ rfl ?_ ?_ ?_); exact ⟨rfl, rfl⟩; assumption)
    refine (HSK.out _ (hG.below B6)).mono ?_
    rintro e x1 ⟨rfl, y1⟩
    have C1 := B6.trans (y1.mono B6.size)
    obtain ⟨x2, HX2, hk2, y2⟩ := stored_dg x1 DK
    go_upto_region 19 with (refine wpList_store_row rfl _ _ _ rfl x1.heap.size DK rfl rfl 28 _ (heap_alloc_new _ _) (by rw [zk]; kernel_rfl) (by rw [zk, z32_sizeC]) ok ?_)
    rw [HX2.out]
    clear HX2
    have C2 := C1.trans (y2.mono C1.size)
    clear y1 y2 C1
    generalize x1.heap.size = q13 at *
    go_wp2_with fail
    refine (HCX.out _ (hG.below C2) C2.size).mono ?_
    rintro e x3 ⟨X', rfl, hX', _, y3, K3⟩
    have hk3 := K3.keep _ _ hk2 (FreeX.none _)
    have C3 := C2.trans y3
    clear hk2 y3 K3 C2 hX'
    go_wp2_with fail
    refine (awake14 _ (hG.below C3)).mono ?_
    rintro e x4 ⟨rfl, y4⟩
    have hcv := HCV.out x4 q13 ((y4.block q13 (Array.getElem?_eq_some_iff.1 hk3).1).trans hk3)
    go_wp2_with fail
    go_ret
    exact ⟨rfl, C3.trans (y4.mono C3.size)⟩
  · as_aux_lemma =>
    obtain ⟨e1, e2⟩ := chk_no k hk32
    rw [e1, e2]
    have tk : ((k.size : Int) != 32) = true := by simp; omega
    go_wp2_with ((with_reducible refine wpList_load_arr_i (g := q8) (cs := z32) 28 _ rfl ?_ ?_ ?_); exact ⟨rfl, rfl⟩; assumption)
    refine (awake14 _ (hG.below B6)).mono ?_
    rintro e x4 ⟨rfl, y4⟩
    go_wp2_with fail
    go_ret
    exact ⟨rfl, B6.trans (y4.mono B6.size)⟩
set_option maxRecDepth 100000 in
set_option maxHeartbeats 8000000 in
theorem chainSums_arg3 (s k : ByteArray) (a : Int) (w : World) (hG : Gl w) (hs : s.size ≤ 1000) (hk : k.size ≤ 1000) (h0 : a ≠ 0) (h1 : a ≠ 1) : Calls Tryd.prog 3 #[.agg #[.string s, .int .i64 1, .int .i64 a, .string k]] w fun e w' => e = .returned (.bool true) ∧ Below w.heap.size w w' := by
  have hz := zero_dig
  have hb := build_z32
  have hnz := neq_z32
  have hgf := hG.sf
  have hgk := hG.sk
  have t1 : ¬ (1000 : Int) < (s.size : Int) := by omega
  have t2 : ¬ (1000 : Int) < (k.size : Int) := by omega
  have e0 : (a == 0) = false := by simpa using h0
  have e1 : (a == 1) = false := by simpa using h1
  have HST := Lib.hid (fun o w => start_arg3 o s a w h0 h1)
  have HCK := Lib.hid (fun o X w' h1 h2 h3 => check_u w.heap.size o X k w' h1 hgf hgk h2 h3)
  obtain ⟨w1, HW1, hc1, B1⟩ := made_four w s k 1 a
  go_enter Tryd.func3, Tryd.ntmps3
  go_upto_region 1 with fail
  rw [HW1.out]
  clear HW1
  refine wp_region_lin (S := (fun w' => w'.cell? ⟨w.heap.size, 0, none⟩ = some (.string s) ∧ w'.cell? ⟨w.heap.size, 1, none⟩ = some (.int .i64 1) ∧ w'.cell? ⟨w.heap.size, 2, none⟩ = some (.int .i64 a) ∧ w'.cell? ⟨w.heap.size, 3, none⟩ = some (.string k))) [(0, true), (1, true), (2, true), (3, true), (4, true), (5, true), (6, true), (7, true), (8, true), (9, true), (10, true), (11, true)] (by kernel_rfl) (by kernel_rfl) rfl (by kernel_rfl) ?_ (fun hHeld => ?_)
  · (try dsimp only); exact hc1
  (refine wpL_calm (o := { dst := some 16, op := Go.Op.fieldAddr 23 (Go.Operand.tmp 1) 0, type := 0, pos := "law.go:31", after := #[], guard := none }) (v := ?_) rfl (Or.inl ⟨by rfl, ?_⟩) ?_; rotate_left; (focus (intro w hSw; (try dsimp only at hSw); go_simp; (try (with_reducible rfl)); done)); try simp only [Act.put, List.setIfInBounds_toArray, List.set_cons_zero, List.set_cons_succ])
  (refine wpL_calm (o := { dst := some 17, op := Go.Op.load 9 (Go.Operand.tmp 16), type := 9, pos := "law.go:31", after := #[{ on := 0, ground := Go.Ground.data }], guard := none }) (v := ?_) rfl (Or.inl ⟨by rfl, ?_⟩) ?_; rotate_left; (focus (intro w hSw; (try dsimp only at hSw); go_simp; (try (with_reducible rfl)); done)); try simp only [Act.put, List.setIfInBounds_toArray, List.set_cons_zero, List.set_cons_succ])
  (refine wpL_calm (o := { dst := some 18, op := Go.Op.fieldAddr 23 (Go.Operand.tmp 1) 1, type := 0, pos := "law.go:31", after := #[{ on := 8, ground := Go.Ground.gcOnly Go.Departure.lateStores }], guard := none }) (v := ?_) rfl (Or.inl ⟨by rfl, ?_⟩) ?_; rotate_left; (focus (intro w hSw; (try dsimp only at hSw); go_simp; (try (with_reducible rfl)); done)); try simp only [Act.put, List.setIfInBounds_toArray, List.set_cons_zero, List.set_cons_succ])
  (refine wpL_calm (o := { dst := some 19, op := Go.Op.load 3 (Go.Operand.tmp 18), type := 3, pos := "law.go:31", after := #[{ on := 2, ground := Go.Ground.data }, { on := 8, ground := Go.Ground.gcOnly Go.Departure.lateStores }], guard := none }) (v := ?_) rfl (Or.inl ⟨by rfl, ?_⟩) ?_; rotate_left; (focus (intro w hSw; (try dsimp only at hSw); go_simp; (try (with_reducible rfl)); done)); try simp only [Act.put, List.setIfInBounds_toArray, List.set_cons_zero, List.set_cons_succ])
  (refine wpL_calm (o := { dst := some 20, op := Go.Op.fieldAddr 23 (Go.Operand.tmp 1) 2, type := 0, pos := "law.go:31", after := #[{ on := 9, ground := Go.Ground.gcOnly Go.Departure.lateStores }], guard := none }) (v := ?_) rfl (Or.inl ⟨by rfl, ?_⟩) ?_; rotate_left; (focus (intro w hSw; (try dsimp only at hSw); go_simp; (try (with_reducible rfl)); done)); try simp only [Act.put, List.setIfInBounds_toArray, List.set_cons_zero, List.set_cons_succ])
  (refine wpL_calm (o := { dst := some 21, op := Go.Op.load 3 (Go.Operand.tmp 20), type := 3, pos := "law.go:31", after := #[{ on := 4, ground := Go.Ground.data }, { on := 9, ground := Go.Ground.gcOnly Go.Departure.lateStores }], guard := none }) (v := ?_) rfl (Or.inl ⟨by rfl, ?_⟩) ?_; rotate_left; (focus (intro w hSw; (try dsimp only at hSw); go_simp; (try (with_reducible rfl)); done)); try simp only [Act.put, List.setIfInBounds_toArray, List.set_cons_zero, List.set_cons_succ])
  (refine wpL_calm (o := { dst := some 22, op := Go.Op.fieldAddr 23 (Go.Operand.tmp 1) 3, type := 0, pos := "law.go:31", after := #[{ on := 10, ground := Go.Ground.gcOnly Go.Departure.lateStores }], guard := none }) (v := ?_) rfl (Or.inl ⟨by rfl, ?_⟩) ?_; rotate_left; (focus (intro w hSw; (try dsimp only at hSw); go_simp; (try (with_reducible rfl)); done)); try simp only [Act.put, List.setIfInBounds_toArray, List.set_cons_zero, List.set_cons_succ])
  (refine wpL_calm (o := { dst := some 23, op := Go.Op.load 9 (Go.Operand.tmp 22), type := 9, pos := "law.go:31", after := #[{ on := 6, ground := Go.Ground.data }, { on := 10, ground := Go.Ground.gcOnly Go.Departure.lateStores }], guard := none }) (v := ?_) rfl (Or.inl ⟨by rfl, ?_⟩) ?_; rotate_left; (focus (intro w hSw; (try dsimp only at hSw); go_simp; (try (with_reducible rfl)); done)); try simp only [Act.put, List.setIfInBounds_toArray, List.set_cons_zero, List.set_cons_succ])
  (refine wpL_calm (o := { dst := some 3, op := Go.Op.assign (Go.Operand.tmp 17), type := 9, pos := "law.go:31", after := #[{ on := 1, ground := Go.Ground.data }, { on := 0, ground := Go.Ground.phase }, { on := 1, ground := Go.Ground.phase }, { on := 2, ground := Go.Ground.textOnly Go.Departure.lateStores }, { on := 3, ground := Go.Ground.textOnly Go.Departure.lateStores }, { on := 4, ground := Go.Ground.textOnly Go.Departure.lateStores }, { on := 5, ground := Go.Ground.textOnly Go.Departure.lateStores }, { on := 6, ground := Go.Ground.textOnly Go.Departure.lateStores }, { on := 7, ground := Go.Ground.textOnly Go.Departure.lateStores }], guard := none }) (v := ?_) rfl (Or.inl ⟨by rfl, ?_⟩) ?_; rotate_left; (focus (intro w hSw; (try dsimp only at hSw); go_simp; (try (with_reducible rfl)); done)); try simp only [Act.put, List.setIfInBounds_toArray, List.set_cons_zero, List.set_cons_succ])
  (refine wpL_calm (o := { dst := some 4, op := Go.Op.assign (Go.Operand.tmp 19), type := 3, pos := "law.go:31", after := #[{ on := 3, ground := Go.Ground.data }, { on := 8, ground := Go.Ground.chain }, { on := 0, ground := Go.Ground.phase }, { on := 1, ground := Go.Ground.phase }, { on := 2, ground := Go.Ground.phase }, { on := 3, ground := Go.Ground.phase }, { on := 4, ground := Go.Ground.textOnly Go.Departure.lateStores }, { on := 5, ground := Go.Ground.textOnly Go.Departure.lateStores }, { on := 6, ground := Go.Ground.textOnly Go.Departure.lateStores }, { on := 7, ground := Go.Ground.textOnly Go.Departure.lateStores }, { on := 8, ground := Go.Ground.phase }], guard := none }) (v := ?_) rfl (Or.inl ⟨by rfl, ?_⟩) ?_; rotate_left; (focus (intro w hSw; (try dsimp only at hSw); go_simp; (try (with_reducible rfl)); done)); try simp only [Act.put, List.setIfInBounds_toArray, List.set_cons_zero, List.set_cons_succ])
  (refine wpL_calm (o := { dst := some 5, op := Go.Op.assign (Go.Operand.tmp 21), type := 3, pos := "law.go:31", after := #[{ on := 5, ground := Go.Ground.data }, { on := 9, ground := Go.Ground.chain }, { on := 0, ground := Go.Ground.phase }, { on := 1, ground := Go.Ground.phase }, { on := 2, ground := Go.Ground.phase }, { on := 3, ground := Go.Ground.phase }, { on := 4, ground := Go.Ground.phase }, { on := 5, ground := Go.Ground.phase }, { on := 6, ground := Go.Ground.textOnly Go.Departure.lateStores }, { on := 7, ground := Go.Ground.textOnly Go.Departure.lateStores }, { on := 8, ground := Go.Ground.phase }, { on := 9, ground := Go.Ground.phase }], guard := none }) (v := ?_) rfl (Or.inl ⟨by rfl, ?_⟩) ?_; rotate_left; (focus (intro w hSw; (try dsimp only at hSw); go_simp; (try (with_reducible rfl)); done)); try simp only [Act.put, List.setIfInBounds_toArray, List.set_cons_zero, List.set_cons_succ])
  (refine wpL_calm (o := { dst := some 6, op := Go.Op.assign (Go.Operand.tmp 23), type := 9, pos := "law.go:31", after := #[{ on := 7, ground := Go.Ground.data }, { on := 10, ground := Go.Ground.chain }, { on := 0, ground := Go.Ground.phase }, { on := 1, ground := Go.Ground.phase }, { on := 2, ground := Go.Ground.phase }, { on := 3, ground := Go.Ground.phase }, { on := 4, ground := Go.Ground.phase }, { on := 5, ground := Go.Ground.phase }, { on := 6, ground := Go.Ground.phase }, { on := 7, ground := Go.Ground.phase }, { on := 8, ground := Go.Ground.phase }, { on := 9, ground := Go.Ground.phase }, { on := 10, ground := Go.Ground.phase }], guard := none }) (v := ?_) rfl (Or.inl ⟨by rfl, ?_⟩) ?_; rotate_left; (focus (intro w hSw; (try dsimp only at hSw); go_simp; (try (with_reducible rfl)); done)); try simp only [Act.put, List.setIfInBounds_toArray, List.set_cons_zero, List.set_cons_succ])
  refine wpL_nil ?_
  refine NoPanic.normal ?_
  have B1d := B1.drew
  clear hc1 B1
  generalize World.drew w1 = w2 at *
  go_wp2_with fail
  refine (new_y w2).mono ?_
  rintro e w3 ⟨o, X3, rfl, hX3, few3, b3⟩
  have B3 := B1d.trans (b3.mono B1d.size)
  have hX3' : OrX w.heap.size w3 o X3 := hX3.weak B1d.size
  clear hX3 b3 B1d
  go_wp2_with fail
  refine (HST.out o w3).mono ?_
  rintro e w4 ⟨rfl, b4⟩
  have hX4 := hX3'.below b4
  have B4 := B3.trans (b4.mono B3.size)
  clear hX3' b4 B3 HST
  obtain ⟨w5, HW5, hd5, b5⟩ := stored_dg w4 z32
  go_upto_region 6 with (refine wpList_store_row rfl _ _ _ rfl w4.heap.size z32 rfl rfl 28 _ (heap_alloc_new _ _) (by rw [z32_sizeC]; kernel_rfl) rfl (by with_unfolding_all exact z32_one) ?_)
  rw [HW5.out]
  clear HW5
  have hX5 := hX4.below b5
  have hf5 : FreeX X3 w4.heap.size := hX4.free _ (Nat.le_refl _)
  have B5 := B4.trans (b5.mono B4.size)
  clear hX4 b5 B4
  generalize w4.heap.size = q8 at *
  go_wp2_with fail
  refine (HCK.out o X3 w5 (hG.below B5) hX5 (few3.mono (by omega))).mono ?_
  rintro e w6 ⟨rfl, b6, k6⟩
  have hd6 := k6 _ _ hd5 hf5
  have B6 := B5.trans b6
  have p1 := loadedA_dig hd6
  clear hX5 hd5 b6 k6 B5 hf5 hd6
  by_cases hk32 : k.size = 32
  · as_aux_lemma =>
    obtain ⟨e1, e2⟩ := chk_yes k hk32
    rw [e1, e2]
    have tk : ((k.size : Int) != 32) = false := by simp; omega
    have hadd := key_add k hk32
    have HSK := Lib.hid (key_sum k hk32)
    have HCV := Lib.hid (conv_dg (sumL (keyT k)) (sumL_len _))
    have HCX := Lib.hid (fun w' h1 h2 => check_x w.heap.size none none k w' h1 hgf hgk h2 (FewX.none _) hk32)
    obtain ⟨zk, ok⟩ := dig_ok' (keyT k)
    generalize digA (sumL (keyT k)) = DK at *
    generalize sB (sumL (keyT k)) = sK at *
    generalize sB (keyT k) = tK at *
    go_wp2_with ((with_reducible refine wpList_load_arr_i (g := q8) (cs := z32) 28 _ rfl ?_ ?_ ?_); exact ⟨rfl, rfl⟩; assumption)
    refine (HSK.out _ (hG.below B6)).mono ?_
    rintro e x1 ⟨rfl, y1⟩
    have C1 := B6.trans (y1.mono B6.size)
    obtain ⟨x2, HX2, hk2, y2⟩ := stored_dg x1 DK
    go_upto_region 19 with (refine wpList_store_row rfl _ _ _ rfl x1.heap.size DK rfl rfl 28 _ (heap_alloc_new _ _) (by rw [zk]; kernel_rfl) (by rw [zk, z32_sizeC]) ok ?_)
    rw [HX2.out]
    clear HX2
    have C2 := C1.trans (y2.mono C1.size)
    clear y1 y2 C1
    generalize x1.heap.size = q13 at *
    go_wp2_with fail
    refine (HCX.out _ (hG.below C2) C2.size).mono ?_
    rintro e x3 ⟨X', rfl, hX', _, y3, K3⟩
    have hk3 := K3.keep _ _ hk2 (FreeX.none _)
    have C3 := C2.trans y3
    clear hk2 y3 K3 C2 hX'
    go_wp2_with fail
    refine (awake14 _ (hG.below C3)).mono ?_
    rintro e x4 ⟨rfl, y4⟩
    have hcv := HCV.out x4 q13 ((y4.block q13 (Array.getElem?_eq_some_iff.1 hk3).1).trans hk3)
    go_wp2_with fail
    go_ret
    exact ⟨rfl, C3.trans (y4.mono C3.size)⟩
  · as_aux_lemma =>
    obtain ⟨e1, e2⟩ := chk_no k hk32
    rw [e1, e2]
    have tk : ((k.size : Int) != 32) = true := by simp; omega
    go_wp2_with ((with_reducible refine wpList_load_arr_i (g := q8) (cs := z32) 28 _ rfl ?_ ?_ ?_); exact ⟨rfl, rfl⟩; assumption)
    refine (awake14 _ (hG.below B6)).mono ?_
    rintro e x4 ⟨rfl, y4⟩
    go_wp2_with fail
    go_ret
    exact ⟨rfl, B6.trans (y4.mono B6.size)⟩
set_option maxRecDepth 100000 in
set_option maxHeartbeats 8000000 in
theorem chainSums_form00 (s k : ByteArray) (w : World) (hG : Gl w) (hs : s.size ≤ 1000) (hk : k.size ≤ 1000) (h64 : s.size ≠ 64) : Calls Tryd.prog 3 #[.agg #[.string s, .int .i64 0, .int .i64 0, .string k]] w fun e w' => e = .returned (.bool true) ∧ Below w.heap.size w w' := by
  have hz := zero_dig
  have hb := build_z32
  have hnz := neq_z32
  have hgf := hG.sf
  have hgk := hG.sk
  have t1 : ¬ (1000 : Int) < (s.size : Int) := by omega
  have t2 : ¬ (1000 : Int) < (k.size : Int) := by omega
  have ts : ((s.size : Int) != 64) = true := by simp; omega
  have HST := Lib.hid (fun o w => start_form00 o s w h64)
  have HCK := Lib.hid (fun o X w' h1 h2 h3 => check_u w.heap.size o X k w' h1 hgf hgk h2 h3)
  obtain ⟨w1, HW1, hc1, B1⟩ := made_four w s k 0 0
  go_enter Tryd.func3, Tryd.ntmps3
  go_upto_region 1 with fail
  rw [HW1.out]
  clear HW1
  refine wp_region_lin (S := (fun w' => w'.cell? ⟨w.heap.size, 0, none⟩ = some (.string s) ∧ w'.cell? ⟨w.heap.size, 1, none⟩ = some (.int .i64 0) ∧ w'.cell? ⟨w.heap.size, 2, none⟩ = some (.int .i64 0) ∧ w'.cell? ⟨w.heap.size, 3, none⟩ = some (.string k))) [(0, true), (1, true), (2, true), (3, true), (4, true), (5, true), (6, true), (7, true), (8, true), (9, true), (10, true), (11, true)] (by kernel_rfl) (by kernel_rfl) rfl (by kernel_rfl) ?_ (fun hHeld => ?_)
  · (try dsimp only); exact hc1
  (refine wpL_calm (o := { dst := some 16, op := Go.Op.fieldAddr 23 (Go.Operand.tmp 1) 0, type := 0, pos := "law.go:31", after := #[], guard := none }) (v := ?_) rfl (Or.inl ⟨by rfl, ?_⟩) ?_; rotate_left; (focus (intro w hSw; (try dsimp only at hSw); go_simp; (try (with_reducible rfl)); done)); try simp only [Act.put, List.setIfInBounds_toArray, List.set_cons_zero, List.set_cons_succ])
  (refine wpL_calm (o := { dst := some 17, op := Go.Op.load 9 (Go.Operand.tmp 16), type := 9, pos := "law.go:31", after := #[{ on := 0, ground := Go.Ground.data }], guard := none }) (v := ?_) rfl (Or.inl ⟨by rfl, ?_⟩) ?_; rotate_left; (focus (intro w hSw; (try dsimp only at hSw); go_simp; (try (with_reducible rfl)); done)); try simp only [Act.put, List.setIfInBounds_toArray, List.set_cons_zero, List.set_cons_succ])
  (refine wpL_calm (o := { dst := some 18, op := Go.Op.fieldAddr 23 (Go.Operand.tmp 1) 1, type := 0, pos := "law.go:31", after := #[{ on := 8, ground := Go.Ground.gcOnly Go.Departure.lateStores }], guard := none }) (v := ?_) rfl (Or.inl ⟨by rfl, ?_⟩) ?_; rotate_left; (focus (intro w hSw; (try dsimp only at hSw); go_simp; (try (with_reducible rfl)); done)); try simp only [Act.put, List.setIfInBounds_toArray, List.set_cons_zero, List.set_cons_succ])
  (refine wpL_calm (o := { dst := some 19, op := Go.Op.load 3 (Go.Operand.tmp 18), type := 3, pos := "law.go:31", after := #[{ on := 2, ground := Go.Ground.data }, { on := 8, ground := Go.Ground.gcOnly Go.Departure.lateStores }], guard := none }) (v := ?_) rfl (Or.inl ⟨by rfl, ?_⟩) ?_; rotate_left; (focus (intro w hSw; (try dsimp only at hSw); go_simp; (try (with_reducible rfl)); done)); try simp only [Act.put, List.setIfInBounds_toArray, List.set_cons_zero, List.set_cons_succ])
  (refine wpL_calm (o := { dst := some 20, op := Go.Op.fieldAddr 23 (Go.Operand.tmp 1) 2, type := 0, pos := "law.go:31", after := #[{ on := 9, ground := Go.Ground.gcOnly Go.Departure.lateStores }], guard := none }) (v := ?_) rfl (Or.inl ⟨by rfl, ?_⟩) ?_; rotate_left; (focus (intro w hSw; (try dsimp only at hSw); go_simp; (try (with_reducible rfl)); done)); try simp only [Act.put, List.setIfInBounds_toArray, List.set_cons_zero, List.set_cons_succ])
  (refine wpL_calm (o := { dst := some 21, op := Go.Op.load 3 (Go.Operand.tmp 20), type := 3, pos := "law.go:31", after := #[{ on := 4, ground := Go.Ground.data }, { on := 9, ground := Go.Ground.gcOnly Go.Departure.lateStores }], guard := none }) (v := ?_) rfl (Or.inl ⟨by rfl, ?_⟩) ?_; rotate_left; (focus (intro w hSw; (try dsimp only at hSw); go_simp; (try (with_reducible rfl)); done)); try simp only [Act.put, List.setIfInBounds_toArray, List.set_cons_zero, List.set_cons_succ])
  (refine wpL_calm (o := { dst := some 22, op := Go.Op.fieldAddr 23 (Go.Operand.tmp 1) 3, type := 0, pos := "law.go:31", after := #[{ on := 10, ground := Go.Ground.gcOnly Go.Departure.lateStores }], guard := none }) (v := ?_) rfl (Or.inl ⟨by rfl, ?_⟩) ?_; rotate_left; (focus (intro w hSw; (try dsimp only at hSw); go_simp; (try (with_reducible rfl)); done)); try simp only [Act.put, List.setIfInBounds_toArray, List.set_cons_zero, List.set_cons_succ])
  (refine wpL_calm (o := { dst := some 23, op := Go.Op.load 9 (Go.Operand.tmp 22), type := 9, pos := "law.go:31", after := #[{ on := 6, ground := Go.Ground.data }, { on := 10, ground := Go.Ground.gcOnly Go.Departure.lateStores }], guard := none }) (v := ?_) rfl (Or.inl ⟨by rfl, ?_⟩) ?_; rotate_left; (focus (intro w hSw; (try dsimp only at hSw); go_simp; (try (with_reducible rfl)); done)); try simp only [Act.put, List.setIfInBounds_toArray, List.set_cons_zero, List.set_cons_succ])
  (refine wpL_calm (o := { dst := some 3, op := Go.Op.assign (Go.Operand.tmp 17), type := 9, pos := "law.go:31", after := #[{ on := 1, ground := Go.Ground.data }, { on := 0, ground := Go.Ground.phase }, { on := 1, ground := Go.Ground.phase }, { on := 2, ground := Go.Ground.textOnly Go.Departure.lateStores }, { on := 3, ground := Go.Ground.textOnly Go.Departure.lateStores }, { on := 4, ground := Go.Ground.textOnly Go.Departure.lateStores }, { on := 5, ground := Go.Ground.textOnly Go.Departure.lateStores }, { on := 6, ground := Go.Ground.textOnly Go.Departure.lateStores }, { on := 7, ground := Go.Ground.textOnly Go.Departure.lateStores }], guard := none }) (v := ?_) rfl (Or.inl ⟨by rfl, ?_⟩) ?_; rotate_left; (focus (intro w hSw; (try dsimp only at hSw); go_simp; (try (with_reducible rfl)); done)); try simp only [Act.put, List.setIfInBounds_toArray, List.set_cons_zero, List.set_cons_succ])
  (refine wpL_calm (o := { dst := some 4, op := Go.Op.assign (Go.Operand.tmp 19), type := 3, pos := "law.go:31", after := #[{ on := 3, ground := Go.Ground.data }, { on := 8, ground := Go.Ground.chain }, { on := 0, ground := Go.Ground.phase }, { on := 1, ground := Go.Ground.phase }, { on := 2, ground := Go.Ground.phase }, { on := 3, ground := Go.Ground.phase }, { on := 4, ground := Go.Ground.textOnly Go.Departure.lateStores }, { on := 5, ground := Go.Ground.textOnly Go.Departure.lateStores }, { on := 6, ground := Go.Ground.textOnly Go.Departure.lateStores }, { on := 7, ground := Go.Ground.textOnly Go.Departure.lateStores }, { on := 8, ground := Go.Ground.phase }], guard := none }) (v := ?_) rfl (Or.inl ⟨by rfl, ?_⟩) ?_; rotate_left; (focus (intro w hSw; (try dsimp only at hSw); go_simp; (try (with_reducible rfl)); done)); try simp only [Act.put, List.setIfInBounds_toArray, List.set_cons_zero, List.set_cons_succ])
  (refine wpL_calm (o := { dst := some 5, op := Go.Op.assign (Go.Operand.tmp 21), type := 3, pos := "law.go:31", after := #[{ on := 5, ground := Go.Ground.data }, { on := 9, ground := Go.Ground.chain }, { on := 0, ground := Go.Ground.phase }, { on := 1, ground := Go.Ground.phase }, { on := 2, ground := Go.Ground.phase }, { on := 3, ground := Go.Ground.phase }, { on := 4, ground := Go.Ground.phase }, { on := 5, ground := Go.Ground.phase }, { on := 6, ground := Go.Ground.textOnly Go.Departure.lateStores }, { on := 7, ground := Go.Ground.textOnly Go.Departure.lateStores }, { on := 8, ground := Go.Ground.phase }, { on := 9, ground := Go.Ground.phase }], guard := none }) (v := ?_) rfl (Or.inl ⟨by rfl, ?_⟩) ?_; rotate_left; (focus (intro w hSw; (try dsimp only at hSw); go_simp; (try (with_reducible rfl)); done)); try simp only [Act.put, List.setIfInBounds_toArray, List.set_cons_zero, List.set_cons_succ])
  (refine wpL_calm (o := { dst := some 6, op := Go.Op.assign (Go.Operand.tmp 23), type := 9, pos := "law.go:31", after := #[{ on := 7, ground := Go.Ground.data }, { on := 10, ground := Go.Ground.chain }, { on := 0, ground := Go.Ground.phase }, { on := 1, ground := Go.Ground.phase }, { on := 2, ground := Go.Ground.phase }, { on := 3, ground := Go.Ground.phase }, { on := 4, ground := Go.Ground.phase }, { on := 5, ground := Go.Ground.phase }, { on := 6, ground := Go.Ground.phase }, { on := 7, ground := Go.Ground.phase }, { on := 8, ground := Go.Ground.phase }, { on := 9, ground := Go.Ground.phase }, { on := 10, ground := Go.Ground.phase }], guard := none }) (v := ?_) rfl (Or.inl ⟨by rfl, ?_⟩) ?_; rotate_left; (focus (intro w hSw; (try dsimp only at hSw); go_simp; (try (with_reducible rfl)); done)); try simp only [Act.put, List.setIfInBounds_toArray, List.set_cons_zero, List.set_cons_succ])
  refine wpL_nil ?_
  refine NoPanic.normal ?_
  have B1d := B1.drew
  clear hc1 B1
  generalize World.drew w1 = w2 at *
  go_wp2_with fail
  refine (new_y w2).mono ?_
  rintro e w3 ⟨o, X3, rfl, hX3, few3, b3⟩
  have B3 := B1d.trans (b3.mono B1d.size)
  have hX3' : OrX w.heap.size w3 o X3 := hX3.weak B1d.size
  clear hX3 b3 B1d
  go_wp2_with fail
  refine (HST.out o w3).mono ?_
  rintro e w4 ⟨rfl, b4⟩
  have hX4 := hX3'.below b4
  have B4 := B3.trans (b4.mono B3.size)
  clear hX3' b4 B3 HST
  obtain ⟨w5, HW5, hd5, b5⟩ := stored_dg w4 z32
  go_upto_region 6 with (refine wpList_store_row rfl _ _ _ rfl w4.heap.size z32 rfl rfl 28 _ (heap_alloc_new _ _) (by rw [z32_sizeC]; kernel_rfl) rfl (by with_unfolding_all exact z32_one) ?_)
  rw [HW5.out]
  clear HW5
  have hX5 := hX4.below b5
  have hf5 : FreeX X3 w4.heap.size := hX4.free _ (Nat.le_refl _)
  have B5 := B4.trans (b5.mono B4.size)
  clear hX4 b5 B4
  generalize w4.heap.size = q8 at *
  go_wp2_with fail
  refine (HCK.out o X3 w5 (hG.below B5) hX5 (few3.mono (by omega))).mono ?_
  rintro e w6 ⟨rfl, b6, k6⟩
  have hd6 := k6 _ _ hd5 hf5
  have B6 := B5.trans b6
  have p1 := loadedA_dig hd6
  clear hX5 hd5 b6 k6 B5 hf5 hd6
  by_cases hk32 : k.size = 32
  · as_aux_lemma =>
    obtain ⟨e1, e2⟩ := chk_yes k hk32
    rw [e1, e2]
    have tk : ((k.size : Int) != 32) = false := by simp; omega
    have hadd := key_add k hk32
    have HSK := Lib.hid (key_sum k hk32)
    have HCV := Lib.hid (conv_dg (sumL (keyT k)) (sumL_len _))
    have HCX := Lib.hid (fun w' h1 h2 => check_x w.heap.size none none k w' h1 hgf hgk h2 (FewX.none _) hk32)
    obtain ⟨zk, ok⟩ := dig_ok' (keyT k)
    generalize digA (sumL (keyT k)) = DK at *
    generalize sB (sumL (keyT k)) = sK at *
    generalize sB (keyT k) = tK at *
    go_wp2_with ((with_reducible refine wpList_load_arr_i (g := q8) (cs := z32) 28 _ rfl ?_ ?_ ?_); exact ⟨rfl, rfl⟩; assumption)
    refine (HSK.out _ (hG.below B6)).mono ?_
    rintro e x1 ⟨rfl, y1⟩
    have C1 := B6.trans (y1.mono B6.size)
    obtain ⟨x2, HX2, hk2, y2⟩ := stored_dg x1 DK
    go_upto_region 19 with (refine wpList_store_row rfl _ _ _ rfl x1.heap.size DK rfl rfl 28 _ (heap_alloc_new _ _) (by rw [zk]; kernel_rfl) (by rw [zk, z32_sizeC]) ok ?_)
    rw [HX2.out]
    clear HX2
    have C2 := C1.trans (y2.mono C1.size)
    clear y1 y2 C1
    generalize x1.heap.size = q13 at *
    go_wp2_with fail
    refine (HCX.out _ (hG.below C2) C2.size).mono ?_
    rintro e x3 ⟨X', rfl, hX', _, y3, K3⟩
    have hk3 := K3.keep _ _ hk2 (FreeX.none _)
    have C3 := C2.trans y3
    clear hk2 y3 K3 C2 hX'
    go_wp2_with fail
    refine (awake14 _ (hG.below C3)).mono ?_
    rintro e x4 ⟨rfl, y4⟩
    have hcv := HCV.out x4 q13 ((y4.block q13 (Array.getElem?_eq_some_iff.1 hk3).1).trans hk3)
    go_wp2_with fail
    go_ret
    exact ⟨rfl, C3.trans (y4.mono C3.size)⟩
  · as_aux_lemma =>
    obtain ⟨e1, e2⟩ := chk_no k hk32
    rw [e1, e2]
    have tk : ((k.size : Int) != 32) = true := by simp; omega
    go_wp2_with ((with_reducible refine wpList_load_arr_i (g := q8) (cs := z32) 28 _ rfl ?_ ?_ ?_); exact ⟨rfl, rfl⟩; assumption)
    refine (awake14 _ (hG.below B6)).mono ?_
    rintro e x4 ⟨rfl, y4⟩
    go_wp2_with fail
    go_ret
    exact ⟨rfl, B6.trans (y4.mono B6.size)⟩
set_option maxRecDepth 100000 in
set_option maxHeartbeats 8000000 in
theorem chainSums_form01 (s k : ByteArray) (w : World) (hG : Gl w) (hs : s.size ≤ 1000) (hk : k.size ≤ 1000) (h64 : s.size ≠ 64) : Calls Tryd.prog 3 #[.agg #[.string s, .int .i64 0, .int .i64 1, .string k]] w fun e w' => e = .returned (.bool true) ∧ Below w.heap.size w w' := by
  have hz := zero_dig
  have hb := build_z32
  have hnz := neq_z32
  have hgf := hG.sf
  have hgk := hG.sk
  have t1 : ¬ (1000 : Int) < (s.size : Int) := by omega
  have t2 : ¬ (1000 : Int) < (k.size : Int) := by omega
  have ts : ((s.size : Int) != 64) = true := by simp; omega
  have HST := Lib.hid (fun o w => start_form01 o s w h64)
  have HCK := Lib.hid (fun o X w' h1 h2 h3 => check_u w.heap.size o X k w' h1 hgf hgk h2 h3)
  obtain ⟨w1, HW1, hc1, B1⟩ := made_four w s k 0 1
  go_enter Tryd.func3, Tryd.ntmps3
  go_upto_region 1 with fail
  rw [HW1.out]
  clear HW1
  refine wp_region_lin (S := (fun w' => w'.cell? ⟨w.heap.size, 0, none⟩ = some (.string s) ∧ w'.cell? ⟨w.heap.size, 1, none⟩ = some (.int .i64 0) ∧ w'.cell? ⟨w.heap.size, 2, none⟩ = some (.int .i64 1) ∧ w'.cell? ⟨w.heap.size, 3, none⟩ = some (.string k))) [(0, true), (1, true), (2, true), (3, true), (4, true), (5, true), (6, true), (7, true), (8, true), (9, true), (10, true), (11, true)] (by kernel_rfl) (by kernel_rfl) rfl (by kernel_rfl) ?_ (fun hHeld => ?_)
  · (try dsimp only); exact hc1
  (refine wpL_calm (o := { dst := some 16, op := Go.Op.fieldAddr 23 (Go.Operand.tmp 1) 0, type := 0, pos := "law.go:31", after := #[], guard := none }) (v := ?_) rfl (Or.inl ⟨by rfl, ?_⟩) ?_; rotate_left; (focus (intro w hSw; (try dsimp only at hSw); go_simp; (try (with_reducible rfl)); done)); try simp only [Act.put, List.setIfInBounds_toArray, List.set_cons_zero, List.set_cons_succ])
  (refine wpL_calm (o := { dst := some 17, op := Go.Op.load 9 (Go.Operand.tmp 16), type := 9, pos := "law.go:31", after := #[{ on := 0, ground := Go.Ground.data }], guard := none }) (v := ?_) rfl (Or.inl ⟨by rfl, ?_⟩) ?_; rotate_left; (focus (intro w hSw; (try dsimp only at hSw); go_simp; (try (with_reducible rfl)); done)); try simp only [Act.put, List.setIfInBounds_toArray, List.set_cons_zero, List.set_cons_succ])
  (refine wpL_calm (o := { dst := some 18, op := Go.Op.fieldAddr 23 (Go.Operand.tmp 1) 1, type := 0, pos := "law.go:31", after := #[{ on := 8, ground := Go.Ground.gcOnly Go.Departure.lateStores }], guard := none }) (v := ?_) rfl (Or.inl ⟨by rfl, ?_⟩) ?_; rotate_left; (focus (intro w hSw; (try dsimp only at hSw); go_simp; (try (with_reducible rfl)); done)); try simp only [Act.put, List.setIfInBounds_toArray, List.set_cons_zero, List.set_cons_succ])
  (refine wpL_calm (o := { dst := some 19, op := Go.Op.load 3 (Go.Operand.tmp 18), type := 3, pos := "law.go:31", after := #[{ on := 2, ground := Go.Ground.data }, { on := 8, ground := Go.Ground.gcOnly Go.Departure.lateStores }], guard := none }) (v := ?_) rfl (Or.inl ⟨by rfl, ?_⟩) ?_; rotate_left; (focus (intro w hSw; (try dsimp only at hSw); go_simp; (try (with_reducible rfl)); done)); try simp only [Act.put, List.setIfInBounds_toArray, List.set_cons_zero, List.set_cons_succ])
  (refine wpL_calm (o := { dst := some 20, op := Go.Op.fieldAddr 23 (Go.Operand.tmp 1) 2, type := 0, pos := "law.go:31", after := #[{ on := 9, ground := Go.Ground.gcOnly Go.Departure.lateStores }], guard := none }) (v := ?_) rfl (Or.inl ⟨by rfl, ?_⟩) ?_; rotate_left; (focus (intro w hSw; (try dsimp only at hSw); go_simp; (try (with_reducible rfl)); done)); try simp only [Act.put, List.setIfInBounds_toArray, List.set_cons_zero, List.set_cons_succ])
  (refine wpL_calm (o := { dst := some 21, op := Go.Op.load 3 (Go.Operand.tmp 20), type := 3, pos := "law.go:31", after := #[{ on := 4, ground := Go.Ground.data }, { on := 9, ground := Go.Ground.gcOnly Go.Departure.lateStores }], guard := none }) (v := ?_) rfl (Or.inl ⟨by rfl, ?_⟩) ?_; rotate_left; (focus (intro w hSw; (try dsimp only at hSw); go_simp; (try (with_reducible rfl)); done)); try simp only [Act.put, List.setIfInBounds_toArray, List.set_cons_zero, List.set_cons_succ])
  (refine wpL_calm (o := { dst := some 22, op := Go.Op.fieldAddr 23 (Go.Operand.tmp 1) 3, type := 0, pos := "law.go:31", after := #[{ on := 10, ground := Go.Ground.gcOnly Go.Departure.lateStores }], guard := none }) (v := ?_) rfl (Or.inl ⟨by rfl, ?_⟩) ?_; rotate_left; (focus (intro w hSw; (try dsimp only at hSw); go_simp; (try (with_reducible rfl)); done)); try simp only [Act.put, List.setIfInBounds_toArray, List.set_cons_zero, List.set_cons_succ])
  (refine wpL_calm (o := { dst := some 23, op := Go.Op.load 9 (Go.Operand.tmp 22), type := 9, pos := "law.go:31", after := #[{ on := 6, ground := Go.Ground.data }, { on := 10, ground := Go.Ground.gcOnly Go.Departure.lateStores }], guard := none }) (v := ?_) rfl (Or.inl ⟨by rfl, ?_⟩) ?_; rotate_left; (focus (intro w hSw; (try dsimp only at hSw); go_simp; (try (with_reducible rfl)); done)); try simp only [Act.put, List.setIfInBounds_toArray, List.set_cons_zero, List.set_cons_succ])
  (refine wpL_calm (o := { dst := some 3, op := Go.Op.assign (Go.Operand.tmp 17), type := 9, pos := "law.go:31", after := #[{ on := 1, ground := Go.Ground.data }, { on := 0, ground := Go.Ground.phase }, { on := 1, ground := Go.Ground.phase }, { on := 2, ground := Go.Ground.textOnly Go.Departure.lateStores }, { on := 3, ground := Go.Ground.textOnly Go.Departure.lateStores }, { on := 4, ground := Go.Ground.textOnly Go.Departure.lateStores }, { on := 5, ground := Go.Ground.textOnly Go.Departure.lateStores }, { on := 6, ground := Go.Ground.textOnly Go.Departure.lateStores }, { on := 7, ground := Go.Ground.textOnly Go.Departure.lateStores }], guard := none }) (v := ?_) rfl (Or.inl ⟨by rfl, ?_⟩) ?_; rotate_left; (focus (intro w hSw; (try dsimp only at hSw); go_simp; (try (with_reducible rfl)); done)); try simp only [Act.put, List.setIfInBounds_toArray, List.set_cons_zero, List.set_cons_succ])
  (refine wpL_calm (o := { dst := some 4, op := Go.Op.assign (Go.Operand.tmp 19), type := 3, pos := "law.go:31", after := #[{ on := 3, ground := Go.Ground.data }, { on := 8, ground := Go.Ground.chain }, { on := 0, ground := Go.Ground.phase }, { on := 1, ground := Go.Ground.phase }, { on := 2, ground := Go.Ground.phase }, { on := 3, ground := Go.Ground.phase }, { on := 4, ground := Go.Ground.textOnly Go.Departure.lateStores }, { on := 5, ground := Go.Ground.textOnly Go.Departure.lateStores }, { on := 6, ground := Go.Ground.textOnly Go.Departure.lateStores }, { on := 7, ground := Go.Ground.textOnly Go.Departure.lateStores }, { on := 8, ground := Go.Ground.phase }], guard := none }) (v := ?_) rfl (Or.inl ⟨by rfl, ?_⟩) ?_; rotate_left; (focus (intro w hSw; (try dsimp only at hSw); go_simp; (try (with_reducible rfl)); done)); try simp only [Act.put, List.setIfInBounds_toArray, List.set_cons_zero, List.set_cons_succ])
  (refine wpL_calm (o := { dst := some 5, op := Go.Op.assign (Go.Operand.tmp 21), type := 3, pos := "law.go:31", after := #[{ on := 5, ground := Go.Ground.data }, { on := 9, ground := Go.Ground.chain }, { on := 0, ground := Go.Ground.phase }, { on := 1, ground := Go.Ground.phase }, { on := 2, ground := Go.Ground.phase }, { on := 3, ground := Go.Ground.phase }, { on := 4, ground := Go.Ground.phase }, { on := 5, ground := Go.Ground.phase }, { on := 6, ground := Go.Ground.textOnly Go.Departure.lateStores }, { on := 7, ground := Go.Ground.textOnly Go.Departure.lateStores }, { on := 8, ground := Go.Ground.phase }, { on := 9, ground := Go.Ground.phase }], guard := none }) (v := ?_) rfl (Or.inl ⟨by rfl, ?_⟩) ?_; rotate_left; (focus (intro w hSw; (try dsimp only at hSw); go_simp; (try (with_reducible rfl)); done)); try simp only [Act.put, List.setIfInBounds_toArray, List.set_cons_zero, List.set_cons_succ])
  (refine wpL_calm (o := { dst := some 6, op := Go.Op.assign (Go.Operand.tmp 23), type := 9, pos := "law.go:31", after := #[{ on := 7, ground := Go.Ground.data }, { on := 10, ground := Go.Ground.chain }, { on := 0, ground := Go.Ground.phase }, { on := 1, ground := Go.Ground.phase }, { on := 2, ground := Go.Ground.phase }, { on := 3, ground := Go.Ground.phase }, { on := 4, ground := Go.Ground.phase }, { on := 5, ground := Go.Ground.phase }, { on := 6, ground := Go.Ground.phase }, { on := 7, ground := Go.Ground.phase }, { on := 8, ground := Go.Ground.phase }, { on := 9, ground := Go.Ground.phase }, { on := 10, ground := Go.Ground.phase }], guard := none }) (v := ?_) rfl (Or.inl ⟨by rfl, ?_⟩) ?_; rotate_left; (focus (intro w hSw; (try dsimp only at hSw); go_simp; (try (with_reducible rfl)); done)); try simp only [Act.put, List.setIfInBounds_toArray, List.set_cons_zero, List.set_cons_succ])
  refine wpL_nil ?_
  refine NoPanic.normal ?_
  have B1d := B1.drew
  clear hc1 B1
  generalize World.drew w1 = w2 at *
  go_wp2_with fail
  refine (new_y w2).mono ?_
  rintro e w3 ⟨o, X3, rfl, hX3, few3, b3⟩
  have B3 := B1d.trans (b3.mono B1d.size)
  have hX3' : OrX w.heap.size w3 o X3 := hX3.weak B1d.size
  clear hX3 b3 B1d
  go_wp2_with fail
  refine (HST.out o w3).mono ?_
  rintro e w4 ⟨rfl, b4⟩
  have hX4 := hX3'.below b4
  have B4 := B3.trans (b4.mono B3.size)
  clear hX3' b4 B3 HST
  obtain ⟨w5, HW5, hd5, b5⟩ := stored_dg w4 z32
  go_upto_region 6 with (refine wpList_store_row rfl _ _ _ rfl w4.heap.size z32 rfl rfl 28 _ (heap_alloc_new _ _) (by rw [z32_sizeC]; kernel_rfl) rfl (by with_unfolding_all exact z32_one) ?_)
  rw [HW5.out]
  clear HW5
  have hX5 := hX4.below b5
  have hf5 : FreeX X3 w4.heap.size := hX4.free _ (Nat.le_refl _)
  have B5 := B4.trans (b5.mono B4.size)
  clear hX4 b5 B4
  generalize w4.heap.size = q8 at *
  go_wp2_with fail
  refine (HCK.out o X3 w5 (hG.below B5) hX5 (few3.mono (by omega))).mono ?_
  rintro e w6 ⟨rfl, b6, k6⟩
  have hd6 := k6 _ _ hd5 hf5
  have B6 := B5.trans b6
  have p1 := loadedA_dig hd6
  clear hX5 hd5 b6 k6 B5 hf5 hd6
  by_cases hk32 : k.size = 32
  · as_aux_lemma =>
    obtain ⟨e1, e2⟩ := chk_yes k hk32
    rw [e1, e2]
    have tk : ((k.size : Int) != 32) = false := by simp; omega
    have hadd := key_add k hk32
    have HSK := Lib.hid (key_sum k hk32)
    have HCV := Lib.hid (conv_dg (sumL (keyT k)) (sumL_len _))
    have HCX := Lib.hid (fun w' h1 h2 => check_x w.heap.size none none k w' h1 hgf hgk h2 (FewX.none _) hk32)
    obtain ⟨zk, ok⟩ := dig_ok' (keyT k)
    generalize digA (sumL (keyT k)) = DK at *
    generalize sB (sumL (keyT k)) = sK at *
    generalize sB (keyT k) = tK at *
    go_wp2_with ((with_reducible refine wpList_load_arr_i (g := q8) (cs := z32) 28 _ rfl ?_ ?_ ?_); exact ⟨rfl, rfl⟩; assumption)
    refine (HSK.out _ (hG.below B6)).mono ?_
    rintro e x1 ⟨rfl, y1⟩
    have C1 := B6.trans (y1.mono B6.size)
    obtain ⟨x2, HX2, hk2, y2⟩ := stored_dg x1 DK
    go_upto_region 19 with (refine wpList_store_row rfl _ _ _ rfl x1.heap.size DK rfl rfl 28 _ (heap_alloc_new _ _) (by rw [zk]; kernel_rfl) (by rw [zk, z32_sizeC]) ok ?_)
    rw [HX2.out]
    clear HX2
    have C2 := C1.trans (y2.mono C1.size)
    clear y1 y2 C1
    generalize x1.heap.size = q13 at *
    go_wp2_with fail
    refine (HCX.out _ (hG.below C2) C2.size).mono ?_
    rintro e x3 ⟨X', rfl, hX', _, y3, K3⟩
    have hk3 := K3.keep _ _ hk2 (FreeX.none _)
    have C3 := C2.trans y3
    clear hk2 y3 K3 C2 hX'
    go_wp2_with fail
    refine (awake14 _ (hG.below C3)).mono ?_
    rintro e x4 ⟨rfl, y4⟩
    have hcv := HCV.out x4 q13 ((y4.block q13 (Array.getElem?_eq_some_iff.1 hk3).1).trans hk3)
    go_wp2_with fail
    go_ret
    exact ⟨rfl, C3.trans (y4.mono C3.size)⟩
  · as_aux_lemma =>
    obtain ⟨e1, e2⟩ := chk_no k hk32
    rw [e1, e2]
    have tk : ((k.size : Int) != 32) = true := by simp; omega
    go_wp2_with ((with_reducible refine wpList_load_arr_i (g := q8) (cs := z32) 28 _ rfl ?_ ?_ ?_); exact ⟨rfl, rfl⟩; assumption)
    refine (awake14 _ (hG.below B6)).mono ?_
    rintro e x4 ⟨rfl, y4⟩
    go_wp2_with fail
    go_ret
    exact ⟨rfl, B6.trans (y4.mono B6.size)⟩
set_option maxRecDepth 100000 in
set_option maxHeartbeats 8000000 in
theorem chainSums_form10 (s k : ByteArray) (w : World) (hG : Gl w) (hs : s.size ≤ 1000) (hk : k.size ≤ 1000) (h64 : s.size ≠ 64) : Calls Tryd.prog 3 #[.agg #[.string s, .int .i64 1, .int .i64 0, .string k]] w fun e w' => e = .returned (.bool true) ∧ Below w.heap.size w w' := by
  have hz := zero_dig
  have hb := build_z32
  have hnz := neq_z32
  have hgf := hG.sf
  have hgk := hG.sk
  have t1 : ¬ (1000 : Int) < (s.size : Int) := by omega
  have t2 : ¬ (1000 : Int) < (k.size : Int) := by omega
  have ts : ((s.size : Int) != 64) = true := by simp; omega
  have HST := Lib.hid (fun o w => start_form10 o s w h64)
  have HCK := Lib.hid (fun o X w' h1 h2 h3 => check_u w.heap.size o X k w' h1 hgf hgk h2 h3)
  obtain ⟨w1, HW1, hc1, B1⟩ := made_four w s k 1 0
  go_enter Tryd.func3, Tryd.ntmps3
  go_upto_region 1 with fail
  rw [HW1.out]
  clear HW1
  refine wp_region_lin (S := (fun w' => w'.cell? ⟨w.heap.size, 0, none⟩ = some (.string s) ∧ w'.cell? ⟨w.heap.size, 1, none⟩ = some (.int .i64 1) ∧ w'.cell? ⟨w.heap.size, 2, none⟩ = some (.int .i64 0) ∧ w'.cell? ⟨w.heap.size, 3, none⟩ = some (.string k))) [(0, true), (1, true), (2, true), (3, true), (4, true), (5, true), (6, true), (7, true), (8, true), (9, true), (10, true), (11, true)] (by kernel_rfl) (by kernel_rfl) rfl (by kernel_rfl) ?_ (fun hHeld => ?_)
  · (try dsimp only); exact hc1
  (refine wpL_calm (o := { dst := some 16, op := Go.Op.fieldAddr 23 (Go.Operand.tmp 1) 0, type := 0, pos := "law.go:31", after := #[], guard := none }) (v := ?_) rfl (Or.inl ⟨by rfl, ?_⟩) ?_; rotate_left; (focus (intro w hSw; (try dsimp only at hSw); go_simp; (try (with_reducible rfl)); done)); try simp only [Act.put, List.setIfInBounds_toArray, List.set_cons_zero, List.set_cons_succ])
  (refine wpL_calm (o := { dst := some 17, op := Go.Op.load 9 (Go.Operand.tmp 16), type := 9, pos := "law.go:31", after := #[{ on := 0, ground := Go.Ground.data }], guard := none }) (v := ?_) rfl (Or.inl ⟨by rfl, ?_⟩) ?_; rotate_left; (focus (intro w hSw; (try dsimp only at hSw); go_simp; (try (with_reducible rfl)); done)); try simp only [Act.put, List.setIfInBounds_toArray, List.set_cons_zero, List.set_cons_succ])
  (refine wpL_calm (o := { dst := some 18, op := Go.Op.fieldAddr 23 (Go.Operand.tmp 1) 1, type := 0, pos := "law.go:31", after := #[{ on := 8, ground := Go.Ground.gcOnly Go.Departure.lateStores }], guard := none }) (v := ?_) rfl (Or.inl ⟨by rfl, ?_⟩) ?_; rotate_left; (focus (intro w hSw; (try dsimp only at hSw); go_simp; (try (with_reducible rfl)); done)); try simp only [Act.put, List.setIfInBounds_toArray, List.set_cons_zero, List.set_cons_succ])
  (refine wpL_calm (o := { dst := some 19, op := Go.Op.load 3 (Go.Operand.tmp 18), type := 3, pos := "law.go:31", after := #[{ on := 2, ground := Go.Ground.data }, { on := 8, ground := Go.Ground.gcOnly Go.Departure.lateStores }], guard := none }) (v := ?_) rfl (Or.inl ⟨by rfl, ?_⟩) ?_; rotate_left; (focus (intro w hSw; (try dsimp only at hSw); go_simp; (try (with_reducible rfl)); done)); try simp only [Act.put, List.setIfInBounds_toArray, List.set_cons_zero, List.set_cons_succ])
  (refine wpL_calm (o := { dst := some 20, op := Go.Op.fieldAddr 23 (Go.Operand.tmp 1) 2, type := 0, pos := "law.go:31", after := #[{ on := 9, ground := Go.Ground.gcOnly Go.Departure.lateStores }], guard := none }) (v := ?_) rfl (Or.inl ⟨by rfl, ?_⟩) ?_; rotate_left; (focus (intro w hSw; (try dsimp only at hSw); go_simp; (try (with_reducible rfl)); done)); try simp only [Act.put, List.setIfInBounds_toArray, List.set_cons_zero, List.set_cons_succ])
  (refine wpL_calm (o := { dst := some 21, op := Go.Op.load 3 (Go.Operand.tmp 20), type := 3, pos := "law.go:31", after := #[{ on := 4, ground := Go.Ground.data }, { on := 9, ground := Go.Ground.gcOnly Go.Departure.lateStores }], guard := none }) (v := ?_) rfl (Or.inl ⟨by rfl, ?_⟩) ?_; rotate_left; (focus (intro w hSw; (try dsimp only at hSw); go_simp; (try (with_reducible rfl)); done)); try simp only [Act.put, List.setIfInBounds_toArray, List.set_cons_zero, List.set_cons_succ])
  (refine wpL_calm (o := { dst := some 22, op := Go.Op.fieldAddr 23 (Go.Operand.tmp 1) 3, type := 0, pos := "law.go:31", after := #[{ on := 10, ground := Go.Ground.gcOnly Go.Departure.lateStores }], guard := none }) (v := ?_) rfl (Or.inl ⟨by rfl, ?_⟩) ?_; rotate_left; (focus (intro w hSw; (try dsimp only at hSw); go_simp; (try (with_reducible rfl)); done)); try simp only [Act.put, List.setIfInBounds_toArray, List.set_cons_zero, List.set_cons_succ])
  (refine wpL_calm (o := { dst := some 23, op := Go.Op.load 9 (Go.Operand.tmp 22), type := 9, pos := "law.go:31", after := #[{ on := 6, ground := Go.Ground.data }, { on := 10, ground := Go.Ground.gcOnly Go.Departure.lateStores }], guard := none }) (v := ?_) rfl (Or.inl ⟨by rfl, ?_⟩) ?_; rotate_left; (focus (intro w hSw; (try dsimp only at hSw); go_simp; (try (with_reducible rfl)); done)); try simp only [Act.put, List.setIfInBounds_toArray, List.set_cons_zero, List.set_cons_succ])
  (refine wpL_calm (o := { dst := some 3, op := Go.Op.assign (Go.Operand.tmp 17), type := 9, pos := "law.go:31", after := #[{ on := 1, ground := Go.Ground.data }, { on := 0, ground := Go.Ground.phase }, { on := 1, ground := Go.Ground.phase }, { on := 2, ground := Go.Ground.textOnly Go.Departure.lateStores }, { on := 3, ground := Go.Ground.textOnly Go.Departure.lateStores }, { on := 4, ground := Go.Ground.textOnly Go.Departure.lateStores }, { on := 5, ground := Go.Ground.textOnly Go.Departure.lateStores }, { on := 6, ground := Go.Ground.textOnly Go.Departure.lateStores }, { on := 7, ground := Go.Ground.textOnly Go.Departure.lateStores }], guard := none }) (v := ?_) rfl (Or.inl ⟨by rfl, ?_⟩) ?_; rotate_left; (focus (intro w hSw; (try dsimp only at hSw); go_simp; (try (with_reducible rfl)); done)); try simp only [Act.put, List.setIfInBounds_toArray, List.set_cons_zero, List.set_cons_succ])
  (refine wpL_calm (o := { dst := some 4, op := Go.Op.assign (Go.Operand.tmp 19), type := 3, pos := "law.go:31", after := #[{ on := 3, ground := Go.Ground.data }, { on := 8, ground := Go.Ground.chain }, { on := 0, ground := Go.Ground.phase }, { on := 1, ground := Go.Ground.phase }, { on := 2, ground := Go.Ground.phase }, { on := 3, ground := Go.Ground.phase }, { on := 4, ground := Go.Ground.textOnly Go.Departure.lateStores }, { on := 5, ground := Go.Ground.textOnly Go.Departure.lateStores }, { on := 6, ground := Go.Ground.textOnly Go.Departure.lateStores }, { on := 7, ground := Go.Ground.textOnly Go.Departure.lateStores }, { on := 8, ground := Go.Ground.phase }], guard := none }) (v := ?_) rfl (Or.inl ⟨by rfl, ?_⟩) ?_; rotate_left; (focus (intro w hSw; (try dsimp only at hSw); go_simp; (try (with_reducible rfl)); done)); try simp only [Act.put, List.setIfInBounds_toArray, List.set_cons_zero, List.set_cons_succ])
  (refine wpL_calm (o := { dst := some 5, op := Go.Op.assign (Go.Operand.tmp 21), type := 3, pos := "law.go:31", after := #[{ on := 5, ground := Go.Ground.data }, { on := 9, ground := Go.Ground.chain }, { on := 0, ground := Go.Ground.phase }, { on := 1, ground := Go.Ground.phase }, { on := 2, ground := Go.Ground.phase }, { on := 3, ground := Go.Ground.phase }, { on := 4, ground := Go.Ground.phase }, { on := 5, ground := Go.Ground.phase }, { on := 6, ground := Go.Ground.textOnly Go.Departure.lateStores }, { on := 7, ground := Go.Ground.textOnly Go.Departure.lateStores }, { on := 8, ground := Go.Ground.phase }, { on := 9, ground := Go.Ground.phase }], guard := none }) (v := ?_) rfl (Or.inl ⟨by rfl, ?_⟩) ?_; rotate_left; (focus (intro w hSw; (try dsimp only at hSw); go_simp; (try (with_reducible rfl)); done)); try simp only [Act.put, List.setIfInBounds_toArray, List.set_cons_zero, List.set_cons_succ])
  (refine wpL_calm (o := { dst := some 6, op := Go.Op.assign (Go.Operand.tmp 23), type := 9, pos := "law.go:31", after := #[{ on := 7, ground := Go.Ground.data }, { on := 10, ground := Go.Ground.chain }, { on := 0, ground := Go.Ground.phase }, { on := 1, ground := Go.Ground.phase }, { on := 2, ground := Go.Ground.phase }, { on := 3, ground := Go.Ground.phase }, { on := 4, ground := Go.Ground.phase }, { on := 5, ground := Go.Ground.phase }, { on := 6, ground := Go.Ground.phase }, { on := 7, ground := Go.Ground.phase }, { on := 8, ground := Go.Ground.phase }, { on := 9, ground := Go.Ground.phase }, { on := 10, ground := Go.Ground.phase }], guard := none }) (v := ?_) rfl (Or.inl ⟨by rfl, ?_⟩) ?_; rotate_left; (focus (intro w hSw; (try dsimp only at hSw); go_simp; (try (with_reducible rfl)); done)); try simp only [Act.put, List.setIfInBounds_toArray, List.set_cons_zero, List.set_cons_succ])
  refine wpL_nil ?_
  refine NoPanic.normal ?_
  have B1d := B1.drew
  clear hc1 B1
  generalize World.drew w1 = w2 at *
  go_wp2_with fail
  refine (new_y w2).mono ?_
  rintro e w3 ⟨o, X3, rfl, hX3, few3, b3⟩
  have B3 := B1d.trans (b3.mono B1d.size)
  have hX3' : OrX w.heap.size w3 o X3 := hX3.weak B1d.size
  clear hX3 b3 B1d
  go_wp2_with fail
  refine (HST.out o w3).mono ?_
  rintro e w4 ⟨rfl, b4⟩
  have hX4 := hX3'.below b4
  have B4 := B3.trans (b4.mono B3.size)
  clear hX3' b4 B3 HST
  obtain ⟨w5, HW5, hd5, b5⟩ := stored_dg w4 z32
  go_upto_region 6 with (refine wpList_store_row rfl _ _ _ rfl w4.heap.size z32 rfl rfl 28 _ (heap_alloc_new _ _) (by rw [z32_sizeC]; kernel_rfl) rfl (by with_unfolding_all exact z32_one) ?_)
  rw [HW5.out]
  clear HW5
  have hX5 := hX4.below b5
  have hf5 : FreeX X3 w4.heap.size := hX4.free _ (Nat.le_refl _)
  have B5 := B4.trans (b5.mono B4.size)
  clear hX4 b5 B4
  generalize w4.heap.size = q8 at *
  go_wp2_with fail
  refine (HCK.out o X3 w5 (hG.below B5) hX5 (few3.mono (by omega))).mono ?_
  rintro e w6 ⟨rfl, b6, k6⟩
  have hd6 := k6 _ _ hd5 hf5
  have B6 := B5.trans b6
  have p1 := loadedA_dig hd6
  clear hX5 hd5 b6 k6 B5 hf5 hd6
  by_cases hk32 : k.size = 32
  · as_aux_lemma =>
    obtain ⟨e1, e2⟩ := chk_yes k hk32
    rw [e1, e2]
    have tk : ((k.size : Int) != 32) = false := by simp; omega
    have hadd := key_add k hk32
    have HSK := Lib.hid (key_sum k hk32)
    have HCV := Lib.hid (conv_dg (sumL (keyT k)) (sumL_len _))
    have HCX := Lib.hid (fun w' h1 h2 => check_x w.heap.size none none k w' h1 hgf hgk h2 (FewX.none _) hk32)
    obtain ⟨zk, ok⟩ := dig_ok' (keyT k)
    generalize digA (sumL (keyT k)) = DK at *
    generalize sB (sumL (keyT k)) = sK at *
    generalize sB (keyT k) = tK at *
    go_wp2_with ((with_reducible refine wpList_load_arr_i (g := q8) (cs := z32) 28 _ rfl ?_ ?_ ?_); exact ⟨rfl, rfl⟩; assumption)
    refine (HSK.out _ (hG.below B6)).mono ?_
    rintro e x1 ⟨rfl, y1⟩
    have C1 := B6.trans (y1.mono B6.size)
    obtain ⟨x2, HX2, hk2, y2⟩ := stored_dg x1 DK
    go_upto_region 19 with (refine wpList_store_row rfl _ _ _ rfl x1.heap.size DK rfl rfl 28 _ (heap_alloc_new _ _) (by rw [zk]; kernel_rfl) (by rw [zk, z32_sizeC]) ok ?_)
    rw [HX2.out]
    clear HX2
    have C2 := C1.trans (y2.mono C1.size)
    clear y1 y2 C1
    generalize x1.heap.size = q13 at *
    go_wp2_with fail
    refine (HCX.out _ (hG.below C2) C2.size).mono ?_
    rintro e x3 ⟨X', rfl, hX', _, y3, K3⟩
    have hk3 := K3.keep _ _ hk2 (FreeX.none _)
    have C3 := C2.trans y3
    clear hk2 y3 K3 C2 hX'
    go_wp2_with fail
    refine (awake14 _ (hG.below C3)).mono ?_
    rintro e x4 ⟨rfl, y4⟩
    have hcv := HCV.out x4 q13 ((y4.block q13 (Array.getElem?_eq_some_iff.1 hk3).1).trans hk3)
    go_wp2_with fail
    go_ret
    exact ⟨rfl, C3.trans (y4.mono C3.size)⟩
  · as_aux_lemma =>
    obtain ⟨e1, e2⟩ := chk_no k hk32
    rw [e1, e2]
    have tk : ((k.size : Int) != 32) = true := by simp; omega
    go_wp2_with ((with_reducible refine wpList_load_arr_i (g := q8) (cs := z32) 28 _ rfl ?_ ?_ ?_); exact ⟨rfl, rfl⟩; assumption)
    refine (awake14 _ (hG.below B6)).mono ?_
    rintro e x4 ⟨rfl, y4⟩
    go_wp2_with fail
    go_ret
    exact ⟨rfl, B6.trans (y4.mono B6.size)⟩
set_option maxRecDepth 100000 in
set_option maxHeartbeats 8000000 in
theorem chainSums_form11 (s k : ByteArray) (w : World) (hG : Gl w) (hs : s.size ≤ 1000) (hk : k.size ≤ 1000) (h64 : s.size ≠ 64) : Calls Tryd.prog 3 #[.agg #[.string s, .int .i64 1, .int .i64 1, .string k]] w fun e w' => e = .returned (.bool true) ∧ Below w.heap.size w w' := by
  have hz := zero_dig
  have hb := build_z32
  have hnz := neq_z32
  have hgf := hG.sf
  have hgk := hG.sk
  have t1 : ¬ (1000 : Int) < (s.size : Int) := by omega
  have t2 : ¬ (1000 : Int) < (k.size : Int) := by omega
  have ts : ((s.size : Int) != 64) = true := by simp; omega
  have HST := Lib.hid (fun o w => start_form11 o s w h64)
  have HCK := Lib.hid (fun o X w' h1 h2 h3 => check_u w.heap.size o X k w' h1 hgf hgk h2 h3)
  obtain ⟨w1, HW1, hc1, B1⟩ := made_four w s k 1 1
  go_enter Tryd.func3, Tryd.ntmps3
  go_upto_region 1 with fail
  rw [HW1.out]
  clear HW1
  refine wp_region_lin (S := (fun w' => w'.cell? ⟨w.heap.size, 0, none⟩ = some (.string s) ∧ w'.cell? ⟨w.heap.size, 1, none⟩ = some (.int .i64 1) ∧ w'.cell? ⟨w.heap.size, 2, none⟩ = some (.int .i64 1) ∧ w'.cell? ⟨w.heap.size, 3, none⟩ = some (.string k))) [(0, true), (1, true), (2, true), (3, true), (4, true), (5, true), (6, true), (7, true), (8, true), (9, true), (10, true), (11, true)] (by kernel_rfl) (by kernel_rfl) rfl (by kernel_rfl) ?_ (fun hHeld => ?_)
  · (try dsimp only); exact hc1
  (refine wpL_calm (o := { dst := some 16, op := Go.Op.fieldAddr 23 (Go.Operand.tmp 1) 0, type := 0, pos := "law.go:31", after := #[], guard := none }) (v := ?_) rfl (Or.inl ⟨by rfl, ?_⟩) ?_; rotate_left; (focus (intro w hSw; (try dsimp only at hSw); go_simp; (try (with_reducible rfl)); done)); try simp only [Act.put, List.setIfInBounds_toArray, List.set_cons_zero, List.set_cons_succ])
  (refine wpL_calm (o := { dst := some 17, op := Go.Op.load 9 (Go.Operand.tmp 16), type := 9, pos := "law.go:31", after := #[{ on := 0, ground := Go.Ground.data }], guard := none }) (v := ?_) rfl (Or.inl ⟨by rfl, ?_⟩) ?_; rotate_left; (focus (intro w hSw; (try dsimp only at hSw); go_simp; (try (with_reducible rfl)); done)); try simp only [Act.put, List.setIfInBounds_toArray, List.set_cons_zero, List.set_cons_succ])
  (refine wpL_calm (o := { dst := some 18, op := Go.Op.fieldAddr 23 (Go.Operand.tmp 1) 1, type := 0, pos := "law.go:31", after := #[{ on := 8, ground := Go.Ground.gcOnly Go.Departure.lateStores }], guard := none }) (v := ?_) rfl (Or.inl ⟨by rfl, ?_⟩) ?_; rotate_left; (focus (intro w hSw; (try dsimp only at hSw); go_simp; (try (with_reducible rfl)); done)); try simp only [Act.put, List.setIfInBounds_toArray, List.set_cons_zero, List.set_cons_succ])
  (refine wpL_calm (o := { dst := some 19, op := Go.Op.load 3 (Go.Operand.tmp 18), type := 3, pos := "law.go:31", after := #[{ on := 2, ground := Go.Ground.data }, { on := 8, ground := Go.Ground.gcOnly Go.Departure.lateStores }], guard := none }) (v := ?_) rfl (Or.inl ⟨by rfl, ?_⟩) ?_; rotate_left; (focus (intro w hSw; (try dsimp only at hSw); go_simp; (try (with_reducible rfl)); done)); try simp only [Act.put, List.setIfInBounds_toArray, List.set_cons_zero, List.set_cons_succ])
  (refine wpL_calm (o := { dst := some 20, op := Go.Op.fieldAddr 23 (Go.Operand.tmp 1) 2, type := 0, pos := "law.go:31", after := #[{ on := 9, ground := Go.Ground.gcOnly Go.Departure.lateStores }], guard := none }) (v := ?_) rfl (Or.inl ⟨by rfl, ?_⟩) ?_; rotate_left; (focus (intro w hSw; (try dsimp only at hSw); go_simp; (try (with_reducible rfl)); done)); try simp only [Act.put, List.setIfInBounds_toArray, List.set_cons_zero, List.set_cons_succ])
  (refine wpL_calm (o := { dst := some 21, op := Go.Op.load 3 (Go.Operand.tmp 20), type := 3, pos := "law.go:31", after := #[{ on := 4, ground := Go.Ground.data }, { on := 9, ground := Go.Ground.gcOnly Go.Departure.lateStores }], guard := none }) (v := ?_) rfl (Or.inl ⟨by rfl, ?_⟩) ?_; rotate_left; (focus (intro w hSw; (try dsimp only at hSw); go_simp; (try (with_reducible rfl)); done)); try simp only [Act.put, List.setIfInBounds_toArray, List.set_cons_zero, List.set_cons_succ])
  (refine wpL_calm (o := { dst := some 22, op := Go.Op.fieldAddr 23 (Go.Operand.tmp 1) 3, type := 0, pos := "law.go:31", after := #[{ on := 10, ground := Go.Ground.gcOnly Go.Departure.lateStores }], guard := none }) (v := ?_) rfl (Or.inl ⟨by rfl, ?_⟩) ?_; rotate_left; (focus (intro w hSw; (try dsimp only at hSw); go_simp; (try (with_reducible rfl)); done)); try simp only [Act.put, List.setIfInBounds_toArray, List.set_cons_zero, List.set_cons_succ])
  (refine wpL_calm (o := { dst := some 23, op := Go.Op.load 9 (Go.Operand.tmp 22), type := 9, pos := "law.go:31", after := #[{ on := 6, ground := Go.Ground.data }, { on := 10, ground := Go.Ground.gcOnly Go.Departure.lateStores }], guard := none }) (v := ?_) rfl (Or.inl ⟨by rfl, ?_⟩) ?_; rotate_left; (focus (intro w hSw; (try dsimp only at hSw); go_simp; (try (with_reducible rfl)); done)); try simp only [Act.put, List.setIfInBounds_toArray, List.set_cons_zero, List.set_cons_succ])
  (refine wpL_calm (o := { dst := some 3, op := Go.Op.assign (Go.Operand.tmp 17), type := 9, pos := "law.go:31", after := #[{ on := 1, ground := Go.Ground.data }, { on := 0, ground := Go.Ground.phase }, { on := 1, ground := Go.Ground.phase }, { on := 2, ground := Go.Ground.textOnly Go.Departure.lateStores }, { on := 3, ground := Go.Ground.textOnly Go.Departure.lateStores }, { on := 4, ground := Go.Ground.textOnly Go.Departure.lateStores }, { on := 5, ground := Go.Ground.textOnly Go.Departure.lateStores }, { on := 6, ground := Go.Ground.textOnly Go.Departure.lateStores }, { on := 7, ground := Go.Ground.textOnly Go.Departure.lateStores }], guard := none }) (v := ?_) rfl (Or.inl ⟨by rfl, ?_⟩) ?_; rotate_left; (focus (intro w hSw; (try dsimp only at hSw); go_simp; (try (with_reducible rfl)); done)); try simp only [Act.put, List.setIfInBounds_toArray, List.set_cons_zero, List.set_cons_succ])
  (refine wpL_calm (o := { dst := some 4, op := Go.Op.assign (Go.Operand.tmp 19), type := 3, pos := "law.go:31", after := #[{ on := 3, ground := Go.Ground.data }, { on := 8, ground := Go.Ground.chain }, { on := 0, ground := Go.Ground.phase }, { on := 1, ground := Go.Ground.phase }, { on := 2, ground := Go.Ground.phase }, { on := 3, ground := Go.Ground.phase }, { on := 4, ground := Go.Ground.textOnly Go.Departure.lateStores }, { on := 5, ground := Go.Ground.textOnly Go.Departure.lateStores }, { on := 6, ground := Go.Ground.textOnly Go.Departure.lateStores }, { on := 7, ground := Go.Ground.textOnly Go.Departure.lateStores }, { on := 8, ground := Go.Ground.phase }], guard := none }) (v := ?_) rfl (Or.inl ⟨by rfl, ?_⟩) ?_; rotate_left; (focus (intro w hSw; (try dsimp only at hSw); go_simp; (try (with_reducible rfl)); done)); try simp only [Act.put, List.setIfInBounds_toArray, List.set_cons_zero, List.set_cons_succ])
  (refine wpL_calm (o := { dst := some 5, op := Go.Op.assign (Go.Operand.tmp 21), type := 3, pos := "law.go:31", after := #[{ on := 5, ground := Go.Ground.data }, { on := 9, ground := Go.Ground.chain }, { on := 0, ground := Go.Ground.phase }, { on := 1, ground := Go.Ground.phase }, { on := 2, ground := Go.Ground.phase }, { on := 3, ground := Go.Ground.phase }, { on := 4, ground := Go.Ground.phase }, { on := 5, ground := Go.Ground.phase }, { on := 6, ground := Go.Ground.textOnly Go.Departure.lateStores }, { on := 7, ground := Go.Ground.textOnly Go.Departure.lateStores }, { on := 8, ground := Go.Ground.phase }, { on := 9, ground := Go.Ground.phase }], guard := none }) (v := ?_) rfl (Or.inl ⟨by rfl, ?_⟩) ?_; rotate_left; (focus (intro w hSw; (try dsimp only at hSw); go_simp; (try (with_reducible rfl)); done)); try simp only [Act.put, List.setIfInBounds_toArray, List.set_cons_zero, List.set_cons_succ])
  (refine wpL_calm (o := { dst := some 6, op := Go.Op.assign (Go.Operand.tmp 23), type := 9, pos := "law.go:31", after := #[{ on := 7, ground := Go.Ground.data }, { on := 10, ground := Go.Ground.chain }, { on := 0, ground := Go.Ground.phase }, { on := 1, ground := Go.Ground.phase }, { on := 2, ground := Go.Ground.phase }, { on := 3, ground := Go.Ground.phase }, { on := 4, ground := Go.Ground.phase }, { on := 5, ground := Go.Ground.phase }, { on := 6, ground := Go.Ground.phase }, { on := 7, ground := Go.Ground.phase }, { on := 8, ground := Go.Ground.phase }, { on := 9, ground := Go.Ground.phase }, { on := 10, ground := Go.Ground.phase }], guard := none }) (v := ?_) rfl (Or.inl ⟨by rfl, ?_⟩) ?_; rotate_left; (focus (intro w hSw; (try dsimp only at hSw); go_simp; (try (with_reducible rfl)); done)); try simp only [Act.put, List.setIfInBounds_toArray, List.set_cons_zero, List.set_cons_succ])
  refine wpL_nil ?_
  refine NoPanic.normal ?_
  have B1d := B1.drew
  clear hc1 B1
  generalize World.drew w1 = w2 at *
  go_wp2_with fail
  refine (new_y w2).mono ?_
  rintro e w3 ⟨o, X3, rfl, hX3, few3, b3⟩
  have B3 := B1d.trans (b3.mono B1d.size)
  have hX3' : OrX w.heap.size w3 o X3 := hX3.weak B1d.size
  clear hX3 b3 B1d
  go_wp2_with fail
  refine (HST.out o w3).mono ?_
  rintro e w4 ⟨rfl, b4⟩
  have hX4 := hX3'.below b4
  have B4 := B3.trans (b4.mono B3.size)
  clear hX3' b4 B3 HST
  obtain ⟨w5, HW5, hd5, b5⟩ := stored_dg w4 z32
  go_upto_region 6 with (refine wpList_store_row rfl _ _ _ rfl w4.heap.size z32 rfl rfl 28 _ (heap_alloc_new _ _) (by rw [z32_sizeC]; kernel_rfl) rfl (by with_unfolding_all exact z32_one) ?_)
  rw [HW5.out]
  clear HW5
  have hX5 := hX4.below b5
  have hf5 : FreeX X3 w4.heap.size := hX4.free _ (Nat.le_refl _)
  have B5 := B4.trans (b5.mono B4.size)
  clear hX4 b5 B4
  generalize w4.heap.size = q8 at *
  go_wp2_with fail
  refine (HCK.out o X3 w5 (hG.below B5) hX5 (few3.mono (by omega))).mono ?_
  rintro e w6 ⟨rfl, b6, k6⟩
  have hd6 := k6 _ _ hd5 hf5
  have B6 := B5.trans b6
  have p1 := loadedA_dig hd6
  clear hX5 hd5 b6 k6 B5 hf5 hd6
  by_cases hk32 : k.size = 32
  · as_aux_lemma =>
    obtain ⟨e1, e2⟩ := chk_yes k hk32
    rw [e1, e2]
    have tk : ((k.size : Int) != 32) = false := by simp; omega
    have hadd := key_add k hk32
    have HSK := Lib.hid (key_sum k hk32)
    have HCV := Lib.hid (conv_dg (sumL (keyT k)) (sumL_len _))
    have HCX := Lib.hid (fun w' h1 h2 => check_x w.heap.size none none k w' h1 hgf hgk h2 (FewX.none _) hk32)
    obtain ⟨zk, ok⟩ := dig_ok' (keyT k)
    generalize digA (sumL (keyT k)) = DK at *
    generalize sB (sumL (keyT k)) = sK at *
    generalize sB (keyT k) = tK at *
    go_wp2_with ((with_reducible refine wpList_load_arr_i (g := q8) (cs := z32) 28 _ rfl ?_ ?_ ?_); exact ⟨rfl, rfl⟩; assumption)
    refine (HSK.out _ (hG.below B6)).mono ?_
    rintro e x1 ⟨rfl, y1⟩
    have C1 := B6.trans (y1.mono B6.size)
    obtain ⟨x2, HX2, hk2, y2⟩ := stored_dg x1 DK
    go_upto_region 19 with (refine wpList_store_row rfl _ _ _ rfl x1.heap.size DK rfl rfl 28 _ (heap_alloc_new _ _) (by rw [zk]; kernel_rfl) (by rw [zk, z32_sizeC]) ok ?_)
    rw [HX2.out]
    clear HX2
    have C2 := C1.trans (y2.mono C1.size)
    clear y1 y2 C1
    generalize x1.heap.size = q13 at *
    go_wp2_with fail
    refine (HCX.out _ (hG.below C2) C2.size).mono ?_
    rintro e x3 ⟨X', rfl, hX', _, y3, K3⟩
    have hk3 := K3.keep _ _ hk2 (FreeX.none _)
    have C3 := C2.trans y3
    clear hk2 y3 K3 C2 hX'
    go_wp2_with fail
    refine (awake14 _ (hG.below C3)).mono ?_
    rintro e x4 ⟨rfl, y4⟩
    have hcv := HCV.out x4 q13 ((y4.block q13 (Array.getElem?_eq_some_iff.1 hk3).1).trans hk3)
    go_wp2_with fail
    go_ret
    exact ⟨rfl, C3.trans (y4.mono C3.size)⟩
  · as_aux_lemma =>
    obtain ⟨e1, e2⟩ := chk_no k hk32
    rw [e1, e2]
    have tk : ((k.size : Int) != 32) = true := by simp; omega
    go_wp2_with ((with_reducible refine wpList_load_arr_i (g := q8) (cs := z32) 28 _ rfl ?_ ?_ ?_); exact ⟨rfl, rfl⟩; assumption)
    refine (awake14 _ (hG.below B6)).mono ?_
    rintro e x4 ⟨rfl, y4⟩
    go_wp2_with fail
    go_ret
    exact ⟨rfl, B6.trans (y4.mono B6.size)⟩
end Go.Proofs.YtjoihpeclkhjdaaDoor
