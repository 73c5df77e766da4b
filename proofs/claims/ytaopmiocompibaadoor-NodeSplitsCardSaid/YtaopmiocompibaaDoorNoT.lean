/- The law NodeSplits (made by gennot.py). -/
import Derived.Test.YtaopmiocompibaaDoorNoS
import Derived.Test.YtaopmiocompibaaDoorNoK
namespace Go.Proofs.YtaopmiocompibaaDoor
open Go.RowKit Go.Deep Go.Maps Go.ChangeShapes Go.WideShapes
set_option linter.unusedVariables false
set_option linter.unusedSimpArgs false
theorem stored_b (w : World) (D X : Array Value) : ∃ w3, Hid (w.alloc (.cells D 33) = w3) ∧ w3.heap[w.heap.size]? = some (.cells D 33 (0, 0)) ∧ Below w.heap.size w w3 := ⟨_, Lib.hid rfl, heap_alloc_new _ _, (Below.refl _ _).alloc (Nat.le_refl _) _⟩
attribute [local irreducible] digA sumL z32 sB
set_option maxRecDepth 100000 in
set_option maxHeartbeats 4000000 in
theorem nodeSplits_nof (s : ByteArray) (side : Int) (dl : List UInt8) (w : World) (hG : Gl w) (HDL : Hid (dl.length = 32)) (hs : s.size ≠ 64) : Calls Tryd.prog 5 #[.string s, .int .i64 side, .agg (digA dl)] w fun e w' => e = .returned (.bool true) ∧ Below w.heap.size w w' := by
  have hz := zero_dig
  have hb := build_z32
  have hez := eql_z32
  have HS := Lib.hid (fun w => split_no s side 6 w rfl (Lib.hid (fun w => refused_form s side w hs)))
  have HW := Lib.hid (fun w => with_no s side 6 dl w rfl (Lib.hid (fun w => refused_form s side w hs)))
  have ht : ((s.size : Int) != 64) = true := by simp; omega
  clear hs
  have hdz : (digA dl).size = dl.length := by with_unfolding_all exact digA_size dl
  obtain ⟨w1, HW1, hr1, B1⟩ := stored_b w (digA dl) z32
  have hld : Tryd.underlying33 = Tryd.underlying33 := rfl
  clear hld
  generalize digA dl = DD at *
  go_enter Tryd.func5, Tryd.ntmps5
  go_upto_region 1 with fail
  rw [HW1.out]
  clear HW1
  go_wp2_with fail
  refine (HS.out _).mono ?_
  rintro e w2 ⟨rfl, b2⟩
  have hr2 := (b2.block _ (Array.getElem?_eq_some_iff.1 hr1).1).trans hr1
  have B2 := B1.trans (b2.mono B1.size)
  clear b2 B1 hr1
  obtain ⟨w3, HW3, hd3, b3⟩ := stored_dg w2 z32
  have hr3 := (b3.block _ (Array.getElem?_eq_some_iff.1 hr2).1).trans hr2
  have B3 := B2.trans (b3.mono B2.size)
  have hq3 : w2.heap.size < w3.heap.size := (Array.getElem?_eq_some_iff.1 hd3).1
  clear b3 B2 hr2
  go_upto_region 2 with (refine wpList_store_row rfl _ _ _ rfl w2.heap.size z32 rfl rfl 33 _ (heap_alloc_new _ _) (by with_unfolding_all kernel_rfl) rfl z32_one ?_)
  rw [HW3.out]
  clear HW3
  generalize w2.heap.size = q at *
  go_wp2_with (refine wpList_load_row rfl _ _ rfl w.heap.size rfl 33 DD (0, 0) _ hr3 Tryd.underlying33 rfl (by rw [hdz, HDL.out]; kernel_rfl) ?_)
  refine (HW.out _).mono ?_
  rintro e w4 ⟨rfl, b4⟩
  have hd4 := (b4.block q hq3).trans hd3
  have B4 := B3.trans (b4.mono B3.size)
  have hq4 := Nat.lt_of_lt_of_le hq3 b4.size
  clear b4 B3 hd3 hr3
  go_wp2_with fail
  refine (awake17 _ (hG.below B4)).mono ?_
  rintro e w5 ⟨rfl, b5⟩
  have B5 := B4.trans (b5.mono B4.size)
  have l1 := loadedA_z ((b5.block q hq4).trans hd4)
  clear b5 B4 hd4
  go_wp2_with ((with_reducible refine wpList_load_arr_i (g := q) (cs := z32) 33 _ rfl ?_ ?_ ?_); exact ⟨rfl, rfl⟩; assumption)
  go_ret
  exact ⟨rfl, B5⟩
set_option maxRecDepth 100000 in
set_option maxHeartbeats 4000000 in
theorem nodeSplits_nor1 (s : ByteArray) (side : Int) (dl : List UInt8) (w : World) (hG : Gl w) (HDL : Hid (dl.length = 32)) (hs : s.size = 64) (h0 : side ≠ 0) (h1 : side ≠ 1) (hn : side < 0) : Calls Tryd.prog 5 #[.string s, .int .i64 side, .agg (digA dl)] w fun e w' => e = .returned (.bool true) ∧ Below w.heap.size w w' := by
  have hz := zero_dig
  have hb := build_z32
  have hez := eql_z32
  have HS := Lib.hid (fun w => split_no s side 3 w rfl (Lib.hid (fun w => refused_range s side w hs h0 h1)))
  have HW := Lib.hid (fun w => with_no s side 3 dl w rfl (Lib.hid (fun w => refused_range s side w hs h0 h1)))
  have ht : ((s.size : Int) != 64) = false := by simp; omega
  clear hs h0 h1
  have hdz : (digA dl).size = dl.length := by with_unfolding_all exact digA_size dl
  obtain ⟨w1, HW1, hr1, B1⟩ := stored_b w (digA dl) z32
  have hld : Tryd.underlying33 = Tryd.underlying33 := rfl
  clear hld
  generalize digA dl = DD at *
  go_enter Tryd.func5, Tryd.ntmps5
  go_upto_region 1 with fail
  rw [HW1.out]
  clear HW1
  go_wp2_with fail
  refine (HS.out _).mono ?_
  rintro e w2 ⟨rfl, b2⟩
  have hr2 := (b2.block _ (Array.getElem?_eq_some_iff.1 hr1).1).trans hr1
  have B2 := B1.trans (b2.mono B1.size)
  clear b2 B1 hr1
  obtain ⟨w3, HW3, hd3, b3⟩ := stored_dg w2 z32
  have hr3 := (b3.block _ (Array.getElem?_eq_some_iff.1 hr2).1).trans hr2
  have B3 := B2.trans (b3.mono B2.size)
  have hq3 : w2.heap.size < w3.heap.size := (Array.getElem?_eq_some_iff.1 hd3).1
  clear b3 B2 hr2
  go_upto_region 2 with (refine wpList_store_row rfl _ _ _ rfl w2.heap.size z32 rfl rfl 33 _ (heap_alloc_new _ _) (by with_unfolding_all kernel_rfl) rfl z32_one ?_)
  rw [HW3.out]
  clear HW3
  generalize w2.heap.size = q at *
  go_wp2_with (refine wpList_load_row rfl _ _ rfl w.heap.size rfl 33 DD (0, 0) _ hr3 Tryd.underlying33 rfl (by rw [hdz, HDL.out]; kernel_rfl) ?_)
  refine (HW.out _).mono ?_
  rintro e w4 ⟨rfl, b4⟩
  have hd4 := (b4.block q hq3).trans hd3
  have B4 := B3.trans (b4.mono B3.size)
  have hq4 := Nat.lt_of_lt_of_le hq3 b4.size
  clear b4 B3 hd3 hr3
  go_wp2_with fail
  refine (awake17 _ (hG.below B4)).mono ?_
  rintro e w5 ⟨rfl, b5⟩
  have B5 := B4.trans (b5.mono B4.size)
  have l1 := loadedA_z ((b5.block q hq4).trans hd4)
  clear b5 B4 hd4
  go_wp2_with ((with_reducible refine wpList_load_arr_i (g := q) (cs := z32) 33 _ rfl ?_ ?_ ?_); exact ⟨rfl, rfl⟩; assumption)
  go_ret
  exact ⟨rfl, B5⟩
set_option maxRecDepth 100000 in
set_option maxHeartbeats 4000000 in
theorem nodeSplits_nor2 (s : ByteArray) (side : Int) (dl : List UInt8) (w : World) (hG : Gl w) (HDL : Hid (dl.length = 32)) (hs : s.size = 64) (h0 : side ≠ 0) (h1 : side ≠ 1) (hn : 1 < side) : Calls Tryd.prog 5 #[.string s, .int .i64 side, .agg (digA dl)] w fun e w' => e = .returned (.bool true) ∧ Below w.heap.size w w' := by
  have hz := zero_dig
  have hb := build_z32
  have hez := eql_z32
  have HS := Lib.hid (fun w => split_no s side 3 w rfl (Lib.hid (fun w => refused_range s side w hs h0 h1)))
  have HW := Lib.hid (fun w => with_no s side 3 dl w rfl (Lib.hid (fun w => refused_range s side w hs h0 h1)))
  have ht : ((s.size : Int) != 64) = false := by simp; omega
  have hn2 : ¬ side < 0 := by omega
  clear hs h0 h1
  have hdz : (digA dl).size = dl.length := by with_unfolding_all exact digA_size dl
  obtain ⟨w1, HW1, hr1, B1⟩ := stored_b w (digA dl) z32
  have hld : Tryd.underlying33 = Tryd.underlying33 := rfl
  clear hld
  generalize digA dl = DD at *
  go_enter Tryd.func5, Tryd.ntmps5
  go_upto_region 1 with fail
  rw [HW1.out]
  clear HW1
  go_wp2_with fail
  refine (HS.out _).mono ?_
  rintro e w2 ⟨rfl, b2⟩
  have hr2 := (b2.block _ (Array.getElem?_eq_some_iff.1 hr1).1).trans hr1
  have B2 := B1.trans (b2.mono B1.size)
  clear b2 B1 hr1
  obtain ⟨w3, HW3, hd3, b3⟩ := stored_dg w2 z32
  have hr3 := (b3.block _ (Array.getElem?_eq_some_iff.1 hr2).1).trans hr2
  have B3 := B2.trans (b3.mono B2.size)
  have hq3 : w2.heap.size < w3.heap.size := (Array.getElem?_eq_some_iff.1 hd3).1
  clear b3 B2 hr2
  go_upto_region 2 with (refine wpList_store_row rfl _ _ _ rfl w2.heap.size z32 rfl rfl 33 _ (heap_alloc_new _ _) (by with_unfolding_all kernel_rfl) rfl z32_one ?_)
  rw [HW3.out]
  clear HW3
  generalize w2.heap.size = q at *
  go_wp2_with (refine wpList_load_row rfl _ _ rfl w.heap.size rfl 33 DD (0, 0) _ hr3 Tryd.underlying33 rfl (by rw [hdz, HDL.out]; kernel_rfl) ?_)
  refine (HW.out _).mono ?_
  rintro e w4 ⟨rfl, b4⟩
  have hd4 := (b4.block q hq3).trans hd3
  have B4 := B3.trans (b4.mono B3.size)
  have hq4 := Nat.lt_of_lt_of_le hq3 b4.size
  clear b4 B3 hd3 hr3
  go_wp2_with fail
  refine (awake17 _ (hG.below B4)).mono ?_
  rintro e w5 ⟨rfl, b5⟩
  have B5 := B4.trans (b5.mono B4.size)
  have l1 := loadedA_z ((b5.block q hq4).trans hd4)
  clear b5 B4 hd4
  go_wp2_with ((with_reducible refine wpList_load_arr_i (g := q) (cs := z32) 33 _ rfl ?_ ?_ ?_); exact ⟨rfl, rfl⟩; assumption)
  go_ret
  exact ⟨rfl, B5⟩
set_option maxRecDepth 100000 in
set_option maxHeartbeats 4000000 in
theorem nodeSplits_0 (pl ql dl : List UInt8) (hp : pl.length = 32) (hq : ql.length = 32) (hd : dl.length = 32) (w : World) (hG : Gl w) : Calls Tryd.prog 5 #[.string (sB (pl ++ ql)), .int .i64 0, .agg (digA dl)] w fun e w' => e = .returned (.bool true) ∧ Below w.heap.size w w' := by
  have hz := zero_dig
  have H1 := halves_app pl ql hp hq
  have H2 := halves_app dl ql hd hq
  have HS := Lib.hid (fun w => split_0 _ _ _ w H1)
  have HW := Lib.hid (fun w => with_0 _ _ _ dl w H1 hd)
  have HS2 := Lib.hid (fun w => split_0 _ _ _ w H2)
  rw [sB_list] at HS HS2
  rw [sB_app] at HW
  have HCV : Hid (∀ (g : Nat) (w2 : World), w2.heap[g]? = some (.cells (digA pl) 33 (0, 0)) → (convert 43 9 (.slice (some ⟨g, 0, none⟩) 32 32)).run Tryd.prog w2 = .ok (.string (sB pl)) w2) := Lib.hid (fun g w2 h => conv_dig h hp)
  have hdx : (digA pl).size = 32 := by with_unfolding_all (rw [digA_size, hp])
  have hdd : (digA dl).size = 32 := by with_unfolding_all (rw [digA_size, hd])
  have hox : (digA pl).all (·.oneCell') = true := by with_unfolding_all exact digA_one _
  have hod : (digA dl).all (·.oneCell') = true := by with_unfolding_all exact digA_one _
  have heq := eql_dig dl hd
  have HDG : Hid ((bv dl).toArray = digA dl) := Lib.hid (by with_unfolding_all rfl)
  have HDL : Hid ((bv dl).length = 32) := Lib.hid (by unfold bv; rw [List.length_map]; exact hd)
  have hs64 := H1.hs
  have hb64 := H2.hs
  have x1 := H1.e0
  have x2 := H1.e1
  have y1 := H2.e0
  have y2 := H2.e1
  clear H1 H2 hp hq hd
  obtain ⟨w1, HW1, hr1, B1⟩ := stored_b w (digA dl) z32
  generalize sB (pl ++ ql) = s at *
  generalize sB (dl ++ ql) = b at *
  generalize digA pl = DX at *
  generalize digA dl = DD at *
  generalize bv dl = BV at *
  generalize sB pl = p at *
  generalize sB ql = q at *
  go_enter Tryd.func5, Tryd.ntmps5
  go_upto_region 1 with fail
  rw [HW1.out]
  clear HW1
  go_wp2_with fail
  refine (HS.out _).mono ?_
  rintro e w2 ⟨rfl, b2⟩
  have hr2 := (b2.block _ (Array.getElem?_eq_some_iff.1 hr1).1).trans hr1
  have B2 := B1.trans (b2.mono B1.size)
  clear b2 B1 hr1
  obtain ⟨w3, HW3, hd3, b3⟩ := stored_dg w2 DX
  have hr3 := (b3.block _ (Array.getElem?_eq_some_iff.1 hr2).1).trans hr2
  have B3 := B2.trans (b3.mono B2.size)
  have hq3 : w2.heap.size < w3.heap.size := (Array.getElem?_eq_some_iff.1 hd3).1
  clear b3 B2 hr2
  go_upto_region 2 with (refine wpList_store_row rfl _ _ _ rfl w2.heap.size DX rfl rfl 33 _ (heap_alloc_new _ _) (by rw [hdx]; with_unfolding_all kernel_rfl) (by rw [hdx]; with_unfolding_all rfl) hox ?_)
  rw [HW3.out]
  clear HW3
  generalize w2.heap.size = g7 at *
  go_wp2_with (refine wpList_load_row rfl _ _ rfl w.heap.size rfl 33 DD (0, 0) _ hr3 Tryd.underlying33 rfl (by rw [hdd]; with_unfolding_all kernel_rfl) ?_)
  refine (HW.out _).mono ?_
  rintro e w4 ⟨rfl, b4⟩
  have hd4 := (b4.block g7 hq3).trans hd3
  have hr4 := (b4.block _ (Array.getElem?_eq_some_iff.1 hr3).1).trans hr3
  have B4 := B3.trans (b4.mono B3.size)
  have hq4 := Nat.lt_of_lt_of_le hq3 b4.size
  clear b4 B3 hd3 hr3 hq3
  go_wp2_with fail
  refine (HS2.out _).mono ?_
  rintro e w5 ⟨rfl, b5⟩
  have hd5 := (b5.block g7 hq4).trans hd4
  have hr5 := (b5.block _ (Array.getElem?_eq_some_iff.1 hr4).1).trans hr4
  have B5 := B4.trans (b5.mono B4.size)
  have hq5 := Nat.lt_of_lt_of_le hq4 b5.size
  clear b5 B4 hd4 hr4 hq4
  obtain ⟨w6, HW6, hc6, b6⟩ := stored_dg w5 DD
  have hd6 := (b6.block g7 hq5).trans hd5
  have hr6 := (b6.block _ (Array.getElem?_eq_some_iff.1 hr5).1).trans hr5
  have B6 := B5.trans (b6.mono B5.size)
  have hq6 := Nat.lt_of_lt_of_le hq5 b6.size
  have hc6q : w5.heap.size < w6.heap.size := (Array.getElem?_eq_some_iff.1 hc6).1
  have hA6 : w.heap.size < w6.heap.size := (Array.getElem?_eq_some_iff.1 hr6).1
  clear b6 B5 hd5 hr5 hq5
  go_upto_region 12 with (refine wpList_store_row rfl _ _ _ rfl w5.heap.size DD rfl rfl 33 _ (heap_alloc_new _ _) (by rw [hdd]; with_unfolding_all kernel_rfl) (by rw [hdd]; with_unfolding_all rfl) hod ?_)
  rw [HW6.out]
  clear HW6
  generalize w5.heap.size = g12 at *
  generalize hA : w.heap.size = gA at *
  have HA := Lib.hid hA
  clear hA
  have wr0 : IntKind.i64.wrap 0 = 0 := by decide
  have wr3 : IntKind.i64.wrap 32 = 32 := by decide
  have wr4 : IntKind.i64.wrap 64 = 64 := by decide
  refine wp_region_lin (S := (fun w' => w'.heap[g7]? = some (.cells DX 33 (0, 0)) ∧ w'.heap[g12]? = some (.cells DD 33 (0, 0)) ∧ w'.heap[gA]? = some (.cells DD 33 (0, 0)))) [(0, false), (1, true), (2, true), (3, true), (4, true), (5, true), (6, true), (7, true), (8, true), (9, true), (10, true), (11, true), (12, true), (13, true), (14, true), (15, true), (16, true), (17, true), (18, true), (19, true), (20, true), (21, true), (22, true), (23, true), (24, true), (25, true), (26, true), (27, true), (28, true), (29, true), (30, true), (31, true), (32, true), (33, true), (34, true), (35, true), (36, true), (37, true), (38, true), (39, true), (40, true), (41, true), (42, true), (43, true), (44, true), (45, true), (46, true), (47, true), (48, true)] (by kernel_rfl) (by kernel_rfl) rfl (by kernel_rfl) ?_ (fun hHeld => ?_)
  · (try dsimp only); exact ⟨hd6, hc6, hr6⟩
  refine wpL_loud1 (o := { dst := some 69, op := Go.Op.call { callee := Go.Callee.value (Go.Operand.func 12), args := #[], argTypes := #[] }, type := 4, pos := "law.go:87", after := #[], guard := none }) rfl (fun K hK => ?_)
  (go_simp; go_at_call 12; refine (awake17 _ (hG.below (by rw [HA.out]; exact B6.drew))).mono ?_; rintro e w7 ⟨rfl, b7⟩; have B7 := B6.drew.trans (b7.mono (by have := B6.size; rw [HA.out] at this; exact this)))
  try go_wp2_with fail
  refine hK.out _ _ ?_ (fun hHeld => ?_)
  · (try dsimp only); exact ⟨(b7.block (w := w6.drew) g7 hq6).trans hd6, (b7.block (w := w6.drew) g12 hc6q).trans hc6, (b7.block (w := w6.drew) gA hA6).trans hr6⟩
  clear hK K
  try simp only [Act.put, List.setIfInBounds_toArray, List.set_cons_zero, List.set_cons_succ]
  (refine wpL_calm (o := { dst := some 70, op := Go.Op.move (Go.Operand.tmp 69), type := 4, pos := "law.go:87", after := #[{ on := 0, ground := Go.Ground.data }, { on := 0, ground := Go.Ground.chain }], guard := none }) (v := ?_) rfl (Or.inl ⟨by rfl, ?_⟩) ?_; rotate_left; (focus (intro w hSw; (try dsimp only at hSw); go_simp; (try (with_reducible rfl)); done)); try simp only [Act.put, List.setIfInBounds_toArray, List.set_cons_zero, List.set_cons_succ])
  first | (refine wpL_calm (o := { dst := some 71, op := Go.Op.move (Go.Operand.tmp 8), type := 23, pos := "law.go:87", after := #[{ on := 1, ground := Go.Ground.guard }], guard := some (1, true) }) (v := ?_) rfl (Or.inl ⟨by rfl, ?_⟩) ?_; rotate_left; (focus (intro w hSw; (try dsimp only at hSw); go_simp; (try (with_reducible rfl)); done)); try simp only [Act.put, List.setIfInBounds_toArray, List.set_cons_zero, List.set_cons_succ]) | (refine wpL_calm (o := { dst := some 71, op := Go.Op.move (Go.Operand.tmp 8), type := 23, pos := "law.go:87", after := #[{ on := 1, ground := Go.Ground.guard }], guard := some (1, true) }) (v := undef) rfl (Or.inr ⟨by rfl, rfl⟩) ?_; try simp only [Act.put, List.setIfInBounds_toArray, List.set_cons_zero, List.set_cons_succ])
  first | (refine wpL_calm (o := { dst := some 72, op := Go.Op.binOp Go.BinOp.eql 23 (Go.Operand.tmp 71) (Go.Operand.const (Go.Value.int Go.IntKind.i64 0)) 23, type := 4, pos := "law.go:87", after := #[{ on := 2, ground := Go.Ground.data }, { on := 1, ground := Go.Ground.guard }], guard := some (1, true) }) (v := ?_) rfl (Or.inl ⟨by rfl, ?_⟩) ?_; rotate_left; (focus (intro w hSw; (try dsimp only at hSw); go_simp; (try (with_reducible rfl)); done)); try simp only [Act.put, List.setIfInBounds_toArray, List.set_cons_zero, List.set_cons_succ]) | (refine wpL_calm (o := { dst := some 72, op := Go.Op.binOp Go.BinOp.eql 23 (Go.Operand.tmp 71) (Go.Operand.const (Go.Value.int Go.IntKind.i64 0)) 23, type := 4, pos := "law.go:87", after := #[{ on := 2, ground := Go.Ground.data }, { on := 1, ground := Go.Ground.guard }], guard := some (1, true) }) (v := undef) rfl (Or.inr ⟨by rfl, rfl⟩) ?_; try simp only [Act.put, List.setIfInBounds_toArray, List.set_cons_zero, List.set_cons_succ])
  (refine wpL_calm (o := { dst := some 73, op := Go.Op.pick (Go.Operand.tmp 70) (Go.Operand.tmp 72) (Go.Operand.const (Go.Value.bool false)), type := 4, pos := "law.go:87", after := #[{ on := 1, ground := Go.Ground.data }, { on := 3, ground := Go.Ground.data }], guard := none }) (v := ?_) rfl (Or.inl ⟨by rfl, ?_⟩) ?_; rotate_left; (focus (intro w hSw; (try dsimp only at hSw); go_simp; (try (with_reducible rfl)); done)); try simp only [Act.put, List.setIfInBounds_toArray, List.set_cons_zero, List.set_cons_succ])
  (refine wpL_calm (o := { dst := some 74, op := Go.Op.move (Go.Operand.tmp 73), type := 4, pos := "law.go:87", after := #[{ on := 4, ground := Go.Ground.data }, { on := 1, ground := Go.Ground.chain }], guard := none }) (v := ?_) rfl (Or.inl ⟨by rfl, ?_⟩) ?_; rotate_left; (focus (intro w hSw; (try dsimp only at hSw); go_simp; (try (with_reducible rfl)); done)); try simp only [Act.put, List.setIfInBounds_toArray, List.set_cons_zero, List.set_cons_succ])
  first | (refine wpL_calm (o := { dst := some 75, op := Go.Op.move (Go.Operand.tmp 10), type := 23, pos := "law.go:87", after := #[{ on := 5, ground := Go.Ground.guard }], guard := some (5, true) }) (v := ?_) rfl (Or.inl ⟨by rfl, ?_⟩) ?_; rotate_left; (focus (intro w hSw; (try dsimp only at hSw); go_simp; (try (with_reducible rfl)); done)); try simp only [Act.put, List.setIfInBounds_toArray, List.set_cons_zero, List.set_cons_succ]) | (refine wpL_calm (o := { dst := some 75, op := Go.Op.move (Go.Operand.tmp 10), type := 23, pos := "law.go:87", after := #[{ on := 5, ground := Go.Ground.guard }], guard := some (5, true) }) (v := undef) rfl (Or.inr ⟨by rfl, rfl⟩) ?_; try simp only [Act.put, List.setIfInBounds_toArray, List.set_cons_zero, List.set_cons_succ])
  first | (refine wpL_calm (o := { dst := some 76, op := Go.Op.binOp Go.BinOp.eql 23 (Go.Operand.tmp 75) (Go.Operand.const (Go.Value.int Go.IntKind.i64 0)) 23, type := 4, pos := "law.go:87", after := #[{ on := 6, ground := Go.Ground.data }, { on := 5, ground := Go.Ground.guard }], guard := some (5, true) }) (v := ?_) rfl (Or.inl ⟨by rfl, ?_⟩) ?_; rotate_left; (focus (intro w hSw; (try dsimp only at hSw); go_simp; (try (with_reducible rfl)); done)); try simp only [Act.put, List.setIfInBounds_toArray, List.set_cons_zero, List.set_cons_succ]) | (refine wpL_calm (o := { dst := some 76, op := Go.Op.binOp Go.BinOp.eql 23 (Go.Operand.tmp 75) (Go.Operand.const (Go.Value.int Go.IntKind.i64 0)) 23, type := 4, pos := "law.go:87", after := #[{ on := 6, ground := Go.Ground.data }, { on := 5, ground := Go.Ground.guard }], guard := some (5, true) }) (v := undef) rfl (Or.inr ⟨by rfl, rfl⟩) ?_; try simp only [Act.put, List.setIfInBounds_toArray, List.set_cons_zero, List.set_cons_succ])
  (refine wpL_calm (o := { dst := some 77, op := Go.Op.pick (Go.Operand.tmp 74) (Go.Operand.tmp 76) (Go.Operand.const (Go.Value.bool false)), type := 4, pos := "law.go:87", after := #[{ on := 5, ground := Go.Ground.data }, { on := 7, ground := Go.Ground.data }], guard := none }) (v := ?_) rfl (Or.inl ⟨by rfl, ?_⟩) ?_; rotate_left; (focus (intro w hSw; (try dsimp only at hSw); go_simp; (try (with_reducible rfl)); done)); try simp only [Act.put, List.setIfInBounds_toArray, List.set_cons_zero, List.set_cons_succ])
  (refine wpL_calm (o := { dst := some 78, op := Go.Op.move (Go.Operand.tmp 77), type := 4, pos := "law.go:87", after := #[{ on := 8, ground := Go.Ground.data }, { on := 5, ground := Go.Ground.chain }], guard := none }) (v := ?_) rfl (Or.inl ⟨by rfl, ?_⟩) ?_; rotate_left; (focus (intro w hSw; (try dsimp only at hSw); go_simp; (try (with_reducible rfl)); done)); try simp only [Act.put, List.setIfInBounds_toArray, List.set_cons_zero, List.set_cons_succ])
  first | (refine wpL_calm (o := { dst := some 79, op := Go.Op.move (Go.Operand.tmp 13), type := 23, pos := "law.go:87", after := #[{ on := 9, ground := Go.Ground.guard }], guard := some (9, true) }) (v := ?_) rfl (Or.inl ⟨by rfl, ?_⟩) ?_; rotate_left; (focus (intro w hSw; (try dsimp only at hSw); go_simp; (try (with_reducible rfl)); done)); try simp only [Act.put, List.setIfInBounds_toArray, List.set_cons_zero, List.set_cons_succ]) | (refine wpL_calm (o := { dst := some 79, op := Go.Op.move (Go.Operand.tmp 13), type := 23, pos := "law.go:87", after := #[{ on := 9, ground := Go.Ground.guard }], guard := some (9, true) }) (v := undef) rfl (Or.inr ⟨by rfl, rfl⟩) ?_; try simp only [Act.put, List.setIfInBounds_toArray, List.set_cons_zero, List.set_cons_succ])
  first | (refine wpL_calm (o := { dst := some 80, op := Go.Op.binOp Go.BinOp.eql 23 (Go.Operand.tmp 79) (Go.Operand.const (Go.Value.int Go.IntKind.i64 0)) 23, type := 4, pos := "law.go:87", after := #[{ on := 10, ground := Go.Ground.data }, { on := 9, ground := Go.Ground.guard }], guard := some (9, true) }) (v := ?_) rfl (Or.inl ⟨by rfl, ?_⟩) ?_; rotate_left; (focus (intro w hSw; (try dsimp only at hSw); go_simp; (try (with_reducible rfl)); done)); try simp only [Act.put, List.setIfInBounds_toArray, List.set_cons_zero, List.set_cons_succ]) | (refine wpL_calm (o := { dst := some 80, op := Go.Op.binOp Go.BinOp.eql 23 (Go.Operand.tmp 79) (Go.Operand.const (Go.Value.int Go.IntKind.i64 0)) 23, type := 4, pos := "law.go:87", after := #[{ on := 10, ground := Go.Ground.data }, { on := 9, ground := Go.Ground.guard }], guard := some (9, true) }) (v := undef) rfl (Or.inr ⟨by rfl, rfl⟩) ?_; try simp only [Act.put, List.setIfInBounds_toArray, List.set_cons_zero, List.set_cons_succ])
  (refine wpL_calm (o := { dst := some 81, op := Go.Op.pick (Go.Operand.tmp 78) (Go.Operand.tmp 80) (Go.Operand.const (Go.Value.bool false)), type := 4, pos := "law.go:87", after := #[{ on := 9, ground := Go.Ground.data }, { on := 11, ground := Go.Ground.data }], guard := none }) (v := ?_) rfl (Or.inl ⟨by rfl, ?_⟩) ?_; rotate_left; (focus (intro w hSw; (try dsimp only at hSw); go_simp; (try (with_reducible rfl)); done)); try simp only [Act.put, List.setIfInBounds_toArray, List.set_cons_zero, List.set_cons_succ])
  (refine wpL_calm (o := { dst := some 82, op := Go.Op.move (Go.Operand.tmp 81), type := 4, pos := "law.go:87", after := #[{ on := 12, ground := Go.Ground.data }, { on := 9, ground := Go.Ground.chain }], guard := none }) (v := ?_) rfl (Or.inl ⟨by rfl, ?_⟩) ?_; rotate_left; (focus (intro w hSw; (try dsimp only at hSw); go_simp; (try (with_reducible rfl)); done)); try simp only [Act.put, List.setIfInBounds_toArray, List.set_cons_zero, List.set_cons_succ])
  first | (refine wpL_calm (o := { dst := some 83, op := Go.Op.slice 33 (Go.Operand.tmp 7) none none none, type := 43, pos := "law.go:87", after := #[{ on := 13, ground := Go.Ground.guard }], guard := some (13, true) }) (v := ?_) rfl (Or.inl ⟨by rfl, ?_⟩) ?_; rotate_left; (focus (intro w hSw; (try dsimp only at hSw); go_simp; (try (with_reducible rfl)); done)); try simp only [Act.put, List.setIfInBounds_toArray, List.set_cons_zero, List.set_cons_succ]) | (refine wpL_calm (o := { dst := some 83, op := Go.Op.slice 33 (Go.Operand.tmp 7) none none none, type := 43, pos := "law.go:87", after := #[{ on := 13, ground := Go.Ground.guard }], guard := some (13, true) }) (v := undef) rfl (Or.inr ⟨by rfl, rfl⟩) ?_; try simp only [Act.put, List.setIfInBounds_toArray, List.set_cons_zero, List.set_cons_succ])
  refine wpL_calm (o := { dst := some 84, op := Go.Op.convert 43 9 (Go.Operand.tmp 83), type := 9, pos := "law.go:87", after := #[{ on := 14, ground := Go.Ground.data }, { on := 13, ground := Go.Ground.guard }], guard := some (13, true) }) (v := .string p) rfl (Or.inl ⟨by rfl, ?_⟩) ?_; (focus (intro w hSw; have hl := HCV.out _ _ hSw.1; go_simp))
  try simp only [Act.put, List.setIfInBounds_toArray, List.set_cons_zero, List.set_cons_succ]
  first | (refine wpL_calm (o := { dst := some 85, op := Go.Op.move (Go.Operand.tmp 0), type := 9, pos := "law.go:87", after := #[{ on := 13, ground := Go.Ground.guard }], guard := some (13, true) }) (v := ?_) rfl (Or.inl ⟨by rfl, ?_⟩) ?_; rotate_left; (focus (intro w hSw; (try dsimp only at hSw); go_simp; (try (with_reducible rfl)); done)); try simp only [Act.put, List.setIfInBounds_toArray, List.set_cons_zero, List.set_cons_succ]) | (refine wpL_calm (o := { dst := some 85, op := Go.Op.move (Go.Operand.tmp 0), type := 9, pos := "law.go:87", after := #[{ on := 13, ground := Go.Ground.guard }], guard := some (13, true) }) (v := undef) rfl (Or.inr ⟨by rfl, rfl⟩) ?_; try simp only [Act.put, List.setIfInBounds_toArray, List.set_cons_zero, List.set_cons_succ])
  first | (refine wpL_calm (o := { dst := some 86, op := Go.Op.move (Go.Operand.tmp 14), type := 3, pos := "law.go:87", after := #[{ on := 13, ground := Go.Ground.guard }], guard := some (13, true) }) (v := ?_) rfl (Or.inl ⟨by rfl, ?_⟩) ?_; rotate_left; (focus (intro w hSw; (try dsimp only at hSw); go_simp; (try (with_reducible rfl)); done)); try simp only [Act.put, List.setIfInBounds_toArray, List.set_cons_zero, List.set_cons_succ]) | (refine wpL_calm (o := { dst := some 86, op := Go.Op.move (Go.Operand.tmp 14), type := 3, pos := "law.go:87", after := #[{ on := 13, ground := Go.Ground.guard }], guard := some (13, true) }) (v := undef) rfl (Or.inr ⟨by rfl, rfl⟩) ?_; try simp only [Act.put, List.setIfInBounds_toArray, List.set_cons_zero, List.set_cons_succ])
  first | (refine wpL_calm (o := { dst := some 87, op := Go.Op.move (Go.Operand.tmp 14), type := 3, pos := "law.go:87", after := #[{ on := 13, ground := Go.Ground.guard }], guard := some (13, true) }) (v := ?_) rfl (Or.inl ⟨by rfl, ?_⟩) ?_; rotate_left; (focus (intro w hSw; (try dsimp only at hSw); go_simp; (try (with_reducible rfl)); done)); try simp only [Act.put, List.setIfInBounds_toArray, List.set_cons_zero, List.set_cons_succ]) | (refine wpL_calm (o := { dst := some 87, op := Go.Op.move (Go.Operand.tmp 14), type := 3, pos := "law.go:87", after := #[{ on := 13, ground := Go.Ground.guard }], guard := some (13, true) }) (v := undef) rfl (Or.inr ⟨by rfl, rfl⟩) ?_; try simp only [Act.put, List.setIfInBounds_toArray, List.set_cons_zero, List.set_cons_succ])
  first | (refine wpL_calm (o := { dst := some 88, op := Go.Op.binOp Go.BinOp.add 3 (Go.Operand.tmp 87) (Go.Operand.const (Go.Value.int Go.IntKind.i64 32)) 3, type := 3, pos := "law.go:87", after := #[{ on := 18, ground := Go.Ground.data }, { on := 13, ground := Go.Ground.guard }], guard := some (13, true) }) (v := ?_) rfl (Or.inl ⟨by rfl, ?_⟩) ?_; rotate_left; (focus (intro w hSw; (try dsimp only at hSw); go_simp; (try (with_reducible rfl)); done)); try simp only [Act.put, List.setIfInBounds_toArray, List.set_cons_zero, List.set_cons_succ]) | (refine wpL_calm (o := { dst := some 88, op := Go.Op.binOp Go.BinOp.add 3 (Go.Operand.tmp 87) (Go.Operand.const (Go.Value.int Go.IntKind.i64 32)) 3, type := 3, pos := "law.go:87", after := #[{ on := 18, ground := Go.Ground.data }, { on := 13, ground := Go.Ground.guard }], guard := some (13, true) }) (v := undef) rfl (Or.inr ⟨by rfl, rfl⟩) ?_; try simp only [Act.put, List.setIfInBounds_toArray, List.set_cons_zero, List.set_cons_succ])
  first | (refine wpL_calm (o := { dst := some 89, op := Go.Op.slice 9 (Go.Operand.tmp 85) (some (Go.Operand.tmp 86)) (some (Go.Operand.tmp 88)) none, type := 9, pos := "law.go:87", after := #[{ on := 16, ground := Go.Ground.data }, { on := 17, ground := Go.Ground.data }, { on := 19, ground := Go.Ground.data }, { on := 13, ground := Go.Ground.guard }], guard := some (13, true) }) (v := ?_) rfl (Or.inl ⟨by rfl, ?_⟩) ?_; rotate_left; (focus (intro w hSw; (try dsimp only at hSw); go_simp; (try (with_reducible rfl)); done)); try simp only [Act.put, List.setIfInBounds_toArray, List.set_cons_zero, List.set_cons_succ]) | (refine wpL_calm (o := { dst := some 89, op := Go.Op.slice 9 (Go.Operand.tmp 85) (some (Go.Operand.tmp 86)) (some (Go.Operand.tmp 88)) none, type := 9, pos := "law.go:87", after := #[{ on := 16, ground := Go.Ground.data }, { on := 17, ground := Go.Ground.data }, { on := 19, ground := Go.Ground.data }, { on := 13, ground := Go.Ground.guard }], guard := some (13, true) }) (v := undef) rfl (Or.inr ⟨by rfl, rfl⟩) ?_; try simp only [Act.put, List.setIfInBounds_toArray, List.set_cons_zero, List.set_cons_succ])
  first | (refine wpL_calm (o := { dst := some 90, op := Go.Op.binOp Go.BinOp.eql 9 (Go.Operand.tmp 84) (Go.Operand.tmp 89) 9, type := 4, pos := "law.go:87", after := #[{ on := 15, ground := Go.Ground.data }, { on := 20, ground := Go.Ground.data }, { on := 13, ground := Go.Ground.guard }], guard := some (13, true) }) (v := ?_) rfl (Or.inl ⟨by rfl, ?_⟩) ?_; rotate_left; (focus (intro w hSw; (try dsimp only at hSw); go_simp; (try (with_reducible rfl)); done)); try simp only [Act.put, List.setIfInBounds_toArray, List.set_cons_zero, List.set_cons_succ]) | (refine wpL_calm (o := { dst := some 90, op := Go.Op.binOp Go.BinOp.eql 9 (Go.Operand.tmp 84) (Go.Operand.tmp 89) 9, type := 4, pos := "law.go:87", after := #[{ on := 15, ground := Go.Ground.data }, { on := 20, ground := Go.Ground.data }, { on := 13, ground := Go.Ground.guard }], guard := some (13, true) }) (v := undef) rfl (Or.inr ⟨by rfl, rfl⟩) ?_; try simp only [Act.put, List.setIfInBounds_toArray, List.set_cons_zero, List.set_cons_succ])
  (refine wpL_calm (o := { dst := some 91, op := Go.Op.pick (Go.Operand.tmp 82) (Go.Operand.tmp 90) (Go.Operand.const (Go.Value.bool false)), type := 4, pos := "law.go:87", after := #[{ on := 13, ground := Go.Ground.data }, { on := 21, ground := Go.Ground.data }], guard := none }) (v := ?_) rfl (Or.inl ⟨by rfl, ?_⟩) ?_; rotate_left; (focus (intro w hSw; (try dsimp only at hSw); go_simp; (try (with_reducible rfl)); done)); try simp only [Act.put, List.setIfInBounds_toArray, List.set_cons_zero, List.set_cons_succ])
  (refine wpL_calm (o := { dst := some 92, op := Go.Op.move (Go.Operand.tmp 91), type := 4, pos := "law.go:87", after := #[{ on := 22, ground := Go.Ground.data }, { on := 13, ground := Go.Ground.chain }], guard := none }) (v := ?_) rfl (Or.inl ⟨by rfl, ?_⟩) ?_; rotate_left; (focus (intro w hSw; (try dsimp only at hSw); go_simp; (try (with_reducible rfl)); done)); try simp only [Act.put, List.setIfInBounds_toArray, List.set_cons_zero, List.set_cons_succ])
  refine wpL_calm (o := { dst := some 93, op := Go.Op.load 33 (Go.Operand.tmp 12), type := 33, pos := "law.go:87", after := #[{ on := 23, ground := Go.Ground.guard }], guard := some (23, true) }) rfl (yieldsIf_load_mid (by rfl) _ _ rfl g12 0 rfl BV _ (fun _ h => range_dg h.2.1 HDG.out) Tryd.underlying33 rfl (by rw [HDL.out]; kernel_rfl)) ?_; rw [HDG.out]
  try simp only [Act.put, List.setIfInBounds_toArray, List.set_cons_zero, List.set_cons_succ]
  refine wpL_calm (o := { dst := some 94, op := Go.Op.load 33 (Go.Operand.tmp 5), type := 33, pos := "law.go:87", after := #[{ on := 23, ground := Go.Ground.guard }], guard := some (23, true) }) rfl (yieldsIf_load_mid (by rfl) _ _ rfl gA 0 rfl BV _ (fun _ h => range_dg h.2.2 HDG.out) Tryd.underlying33 rfl (by rw [HDL.out]; kernel_rfl)) ?_; rw [HDG.out]
  try simp only [Act.put, List.setIfInBounds_toArray, List.set_cons_zero, List.set_cons_succ]
  first | (refine wpL_calm (o := { dst := some 95, op := Go.Op.binOp Go.BinOp.eql 33 (Go.Operand.tmp 93) (Go.Operand.tmp 94) 33, type := 4, pos := "law.go:87", after := #[{ on := 24, ground := Go.Ground.data }, { on := 25, ground := Go.Ground.data }, { on := 23, ground := Go.Ground.guard }], guard := some (23, true) }) (v := ?_) rfl (Or.inl ⟨by rfl, ?_⟩) ?_; rotate_left; (focus (intro w hSw; (try dsimp only at hSw); go_simp; (try (with_reducible rfl)); done)); try simp only [Act.put, List.setIfInBounds_toArray, List.set_cons_zero, List.set_cons_succ]) | (refine wpL_calm (o := { dst := some 95, op := Go.Op.binOp Go.BinOp.eql 33 (Go.Operand.tmp 93) (Go.Operand.tmp 94) 33, type := 4, pos := "law.go:87", after := #[{ on := 24, ground := Go.Ground.data }, { on := 25, ground := Go.Ground.data }, { on := 23, ground := Go.Ground.guard }], guard := some (23, true) }) (v := undef) rfl (Or.inr ⟨by rfl, rfl⟩) ?_; try simp only [Act.put, List.setIfInBounds_toArray, List.set_cons_zero, List.set_cons_succ])
  (refine wpL_calm (o := { dst := some 96, op := Go.Op.pick (Go.Operand.tmp 92) (Go.Operand.tmp 95) (Go.Operand.const (Go.Value.bool false)), type := 4, pos := "law.go:87", after := #[{ on := 23, ground := Go.Ground.data }, { on := 26, ground := Go.Ground.data }], guard := none }) (v := ?_) rfl (Or.inl ⟨by rfl, ?_⟩) ?_; rotate_left; (focus (intro w hSw; (try dsimp only at hSw); go_simp; (try (with_reducible rfl)); done)); try simp only [Act.put, List.setIfInBounds_toArray, List.set_cons_zero, List.set_cons_succ])
  (refine wpL_calm (o := { dst := some 97, op := Go.Op.move (Go.Operand.tmp 96), type := 4, pos := "law.go:87", after := #[{ on := 27, ground := Go.Ground.data }, { on := 23, ground := Go.Ground.chain }], guard := none }) (v := ?_) rfl (Or.inl ⟨by rfl, ?_⟩) ?_; rotate_left; (focus (intro w hSw; (try dsimp only at hSw); go_simp; (try (with_reducible rfl)); done)); try simp only [Act.put, List.setIfInBounds_toArray, List.set_cons_zero, List.set_cons_succ])
  first | (refine wpL_calm (o := { dst := some 98, op := Go.Op.move (Go.Operand.tmp 9), type := 9, pos := "law.go:87", after := #[{ on := 28, ground := Go.Ground.guard }], guard := some (28, true) }) (v := ?_) rfl (Or.inl ⟨by rfl, ?_⟩) ?_; rotate_left; (focus (intro w hSw; (try dsimp only at hSw); go_simp; (try (with_reducible rfl)); done)); try simp only [Act.put, List.setIfInBounds_toArray, List.set_cons_zero, List.set_cons_succ]) | (refine wpL_calm (o := { dst := some 98, op := Go.Op.move (Go.Operand.tmp 9), type := 9, pos := "law.go:87", after := #[{ on := 28, ground := Go.Ground.guard }], guard := some (28, true) }) (v := undef) rfl (Or.inr ⟨by rfl, rfl⟩) ?_; try simp only [Act.put, List.setIfInBounds_toArray, List.set_cons_zero, List.set_cons_succ])
  first | (refine wpL_calm (o := { dst := some 99, op := Go.Op.move (Go.Operand.tmp 14), type := 3, pos := "law.go:87", after := #[{ on := 28, ground := Go.Ground.guard }], guard := some (28, true) }) (v := ?_) rfl (Or.inl ⟨by rfl, ?_⟩) ?_; rotate_left; (focus (intro w hSw; (try dsimp only at hSw); go_simp; (try (with_reducible rfl)); done)); try simp only [Act.put, List.setIfInBounds_toArray, List.set_cons_zero, List.set_cons_succ]) | (refine wpL_calm (o := { dst := some 99, op := Go.Op.move (Go.Operand.tmp 14), type := 3, pos := "law.go:87", after := #[{ on := 28, ground := Go.Ground.guard }], guard := some (28, true) }) (v := undef) rfl (Or.inr ⟨by rfl, rfl⟩) ?_; try simp only [Act.put, List.setIfInBounds_toArray, List.set_cons_zero, List.set_cons_succ])
  first | (refine wpL_calm (o := { dst := some 100, op := Go.Op.binOp Go.BinOp.sub 3 (Go.Operand.const (Go.Value.int Go.IntKind.i64 32)) (Go.Operand.tmp 99) 3, type := 3, pos := "law.go:87", after := #[{ on := 30, ground := Go.Ground.data }, { on := 28, ground := Go.Ground.guard }], guard := some (28, true) }) (v := ?_) rfl (Or.inl ⟨by rfl, ?_⟩) ?_; rotate_left; (focus (intro w hSw; (try dsimp only at hSw); go_simp; (try (with_reducible rfl)); done)); try simp only [Act.put, List.setIfInBounds_toArray, List.set_cons_zero, List.set_cons_succ]) | (refine wpL_calm (o := { dst := some 100, op := Go.Op.binOp Go.BinOp.sub 3 (Go.Operand.const (Go.Value.int Go.IntKind.i64 32)) (Go.Operand.tmp 99) 3, type := 3, pos := "law.go:87", after := #[{ on := 30, ground := Go.Ground.data }, { on := 28, ground := Go.Ground.guard }], guard := some (28, true) }) (v := undef) rfl (Or.inr ⟨by rfl, rfl⟩) ?_; try simp only [Act.put, List.setIfInBounds_toArray, List.set_cons_zero, List.set_cons_succ])
  first | (refine wpL_calm (o := { dst := some 101, op := Go.Op.move (Go.Operand.tmp 14), type := 3, pos := "law.go:87", after := #[{ on := 28, ground := Go.Ground.guard }], guard := some (28, true) }) (v := ?_) rfl (Or.inl ⟨by rfl, ?_⟩) ?_; rotate_left; (focus (intro w hSw; (try dsimp only at hSw); go_simp; (try (with_reducible rfl)); done)); try simp only [Act.put, List.setIfInBounds_toArray, List.set_cons_zero, List.set_cons_succ]) | (refine wpL_calm (o := { dst := some 101, op := Go.Op.move (Go.Operand.tmp 14), type := 3, pos := "law.go:87", after := #[{ on := 28, ground := Go.Ground.guard }], guard := some (28, true) }) (v := undef) rfl (Or.inr ⟨by rfl, rfl⟩) ?_; try simp only [Act.put, List.setIfInBounds_toArray, List.set_cons_zero, List.set_cons_succ])
  first | (refine wpL_calm (o := { dst := some 102, op := Go.Op.binOp Go.BinOp.sub 3 (Go.Operand.const (Go.Value.int Go.IntKind.i64 64)) (Go.Operand.tmp 101) 3, type := 3, pos := "law.go:87", after := #[{ on := 32, ground := Go.Ground.data }, { on := 28, ground := Go.Ground.guard }], guard := some (28, true) }) (v := ?_) rfl (Or.inl ⟨by rfl, ?_⟩) ?_; rotate_left; (focus (intro w hSw; (try dsimp only at hSw); go_simp; (try (with_reducible rfl)); done)); try simp only [Act.put, List.setIfInBounds_toArray, List.set_cons_zero, List.set_cons_succ]) | (refine wpL_calm (o := { dst := some 102, op := Go.Op.binOp Go.BinOp.sub 3 (Go.Operand.const (Go.Value.int Go.IntKind.i64 64)) (Go.Operand.tmp 101) 3, type := 3, pos := "law.go:87", after := #[{ on := 32, ground := Go.Ground.data }, { on := 28, ground := Go.Ground.guard }], guard := some (28, true) }) (v := undef) rfl (Or.inr ⟨by rfl, rfl⟩) ?_; try simp only [Act.put, List.setIfInBounds_toArray, List.set_cons_zero, List.set_cons_succ])
  first | (refine wpL_calm (o := { dst := some 103, op := Go.Op.slice 9 (Go.Operand.tmp 98) (some (Go.Operand.tmp 100)) (some (Go.Operand.tmp 102)) none, type := 9, pos := "law.go:87", after := #[{ on := 29, ground := Go.Ground.data }, { on := 31, ground := Go.Ground.data }, { on := 33, ground := Go.Ground.data }, { on := 28, ground := Go.Ground.guard }], guard := some (28, true) }) (v := ?_) rfl (Or.inl ⟨by rfl, ?_⟩) ?_; rotate_left; (focus (intro w hSw; (try dsimp only at hSw); go_simp; (try (with_reducible rfl)); done)); try simp only [Act.put, List.setIfInBounds_toArray, List.set_cons_zero, List.set_cons_succ]) | (refine wpL_calm (o := { dst := some 103, op := Go.Op.slice 9 (Go.Operand.tmp 98) (some (Go.Operand.tmp 100)) (some (Go.Operand.tmp 102)) none, type := 9, pos := "law.go:87", after := #[{ on := 29, ground := Go.Ground.data }, { on := 31, ground := Go.Ground.data }, { on := 33, ground := Go.Ground.data }, { on := 28, ground := Go.Ground.guard }], guard := some (28, true) }) (v := undef) rfl (Or.inr ⟨by rfl, rfl⟩) ?_; try simp only [Act.put, List.setIfInBounds_toArray, List.set_cons_zero, List.set_cons_succ])
  first | (refine wpL_calm (o := { dst := some 104, op := Go.Op.move (Go.Operand.tmp 0), type := 9, pos := "law.go:87", after := #[{ on := 28, ground := Go.Ground.guard }], guard := some (28, true) }) (v := ?_) rfl (Or.inl ⟨by rfl, ?_⟩) ?_; rotate_left; (focus (intro w hSw; (try dsimp only at hSw); go_simp; (try (with_reducible rfl)); done)); try simp only [Act.put, List.setIfInBounds_toArray, List.set_cons_zero, List.set_cons_succ]) | (refine wpL_calm (o := { dst := some 104, op := Go.Op.move (Go.Operand.tmp 0), type := 9, pos := "law.go:87", after := #[{ on := 28, ground := Go.Ground.guard }], guard := some (28, true) }) (v := undef) rfl (Or.inr ⟨by rfl, rfl⟩) ?_; try simp only [Act.put, List.setIfInBounds_toArray, List.set_cons_zero, List.set_cons_succ])
  first | (refine wpL_calm (o := { dst := some 105, op := Go.Op.move (Go.Operand.tmp 14), type := 3, pos := "law.go:87", after := #[{ on := 28, ground := Go.Ground.guard }], guard := some (28, true) }) (v := ?_) rfl (Or.inl ⟨by rfl, ?_⟩) ?_; rotate_left; (focus (intro w hSw; (try dsimp only at hSw); go_simp; (try (with_reducible rfl)); done)); try simp only [Act.put, List.setIfInBounds_toArray, List.set_cons_zero, List.set_cons_succ]) | (refine wpL_calm (o := { dst := some 105, op := Go.Op.move (Go.Operand.tmp 14), type := 3, pos := "law.go:87", after := #[{ on := 28, ground := Go.Ground.guard }], guard := some (28, true) }) (v := undef) rfl (Or.inr ⟨by rfl, rfl⟩) ?_; try simp only [Act.put, List.setIfInBounds_toArray, List.set_cons_zero, List.set_cons_succ])
  first | (refine wpL_calm (o := { dst := some 106, op := Go.Op.binOp Go.BinOp.sub 3 (Go.Operand.const (Go.Value.int Go.IntKind.i64 32)) (Go.Operand.tmp 105) 3, type := 3, pos := "law.go:87", after := #[{ on := 36, ground := Go.Ground.data }, { on := 28, ground := Go.Ground.guard }], guard := some (28, true) }) (v := ?_) rfl (Or.inl ⟨by rfl, ?_⟩) ?_; rotate_left; (focus (intro w hSw; (try dsimp only at hSw); go_simp; (try (with_reducible rfl)); done)); try simp only [Act.put, List.setIfInBounds_toArray, List.set_cons_zero, List.set_cons_succ]) | (refine wpL_calm (o := { dst := some 106, op := Go.Op.binOp Go.BinOp.sub 3 (Go.Operand.const (Go.Value.int Go.IntKind.i64 32)) (Go.Operand.tmp 105) 3, type := 3, pos := "law.go:87", after := #[{ on := 36, ground := Go.Ground.data }, { on := 28, ground := Go.Ground.guard }], guard := some (28, true) }) (v := undef) rfl (Or.inr ⟨by rfl, rfl⟩) ?_; try simp only [Act.put, List.setIfInBounds_toArray, List.set_cons_zero, List.set_cons_succ])
  first | (refine wpL_calm (o := { dst := some 107, op := Go.Op.move (Go.Operand.tmp 14), type := 3, pos := "law.go:87", after := #[{ on := 28, ground := Go.Ground.guard }], guard := some (28, true) }) (v := ?_) rfl (Or.inl ⟨by rfl, ?_⟩) ?_; rotate_left; (focus (intro w hSw; (try dsimp only at hSw); go_simp; (try (with_reducible rfl)); done)); try simp only [Act.put, List.setIfInBounds_toArray, List.set_cons_zero, List.set_cons_succ]) | (refine wpL_calm (o := { dst := some 107, op := Go.Op.move (Go.Operand.tmp 14), type := 3, pos := "law.go:87", after := #[{ on := 28, ground := Go.Ground.guard }], guard := some (28, true) }) (v := undef) rfl (Or.inr ⟨by rfl, rfl⟩) ?_; try simp only [Act.put, List.setIfInBounds_toArray, List.set_cons_zero, List.set_cons_succ])
  first | (refine wpL_calm (o := { dst := some 108, op := Go.Op.binOp Go.BinOp.sub 3 (Go.Operand.const (Go.Value.int Go.IntKind.i64 64)) (Go.Operand.tmp 107) 3, type := 3, pos := "law.go:87", after := #[{ on := 38, ground := Go.Ground.data }, { on := 28, ground := Go.Ground.guard }], guard := some (28, true) }) (v := ?_) rfl (Or.inl ⟨by rfl, ?_⟩) ?_; rotate_left; (focus (intro w hSw; (try dsimp only at hSw); go_simp; (try (with_reducible rfl)); done)); try simp only [Act.put, List.setIfInBounds_toArray, List.set_cons_zero, List.set_cons_succ]) | (refine wpL_calm (o := { dst := some 108, op := Go.Op.binOp Go.BinOp.sub 3 (Go.Operand.const (Go.Value.int Go.IntKind.i64 64)) (Go.Operand.tmp 107) 3, type := 3, pos := "law.go:87", after := #[{ on := 38, ground := Go.Ground.data }, { on := 28, ground := Go.Ground.guard }], guard := some (28, true) }) (v := undef) rfl (Or.inr ⟨by rfl, rfl⟩) ?_; try simp only [Act.put, List.setIfInBounds_toArray, List.set_cons_zero, List.set_cons_succ])
  first | (refine wpL_calm (o := { dst := some 109, op := Go.Op.slice 9 (Go.Operand.tmp 104) (some (Go.Operand.tmp 106)) (some (Go.Operand.tmp 108)) none, type := 9, pos := "law.go:87", after := #[{ on := 35, ground := Go.Ground.data }, { on := 37, ground := Go.Ground.data }, { on := 39, ground := Go.Ground.data }, { on := 28, ground := Go.Ground.guard }], guard := some (28, true) }) (v := ?_) rfl (Or.inl ⟨by rfl, ?_⟩) ?_; rotate_left; (focus (intro w hSw; (try dsimp only at hSw); go_simp; (try (with_reducible rfl)); done)); try simp only [Act.put, List.setIfInBounds_toArray, List.set_cons_zero, List.set_cons_succ]) | (refine wpL_calm (o := { dst := some 109, op := Go.Op.slice 9 (Go.Operand.tmp 104) (some (Go.Operand.tmp 106)) (some (Go.Operand.tmp 108)) none, type := 9, pos := "law.go:87", after := #[{ on := 35, ground := Go.Ground.data }, { on := 37, ground := Go.Ground.data }, { on := 39, ground := Go.Ground.data }, { on := 28, ground := Go.Ground.guard }], guard := some (28, true) }) (v := undef) rfl (Or.inr ⟨by rfl, rfl⟩) ?_; try simp only [Act.put, List.setIfInBounds_toArray, List.set_cons_zero, List.set_cons_succ])
  first | (refine wpL_calm (o := { dst := some 110, op := Go.Op.binOp Go.BinOp.eql 9 (Go.Operand.tmp 103) (Go.Operand.tmp 109) 9, type := 4, pos := "law.go:87", after := #[{ on := 34, ground := Go.Ground.data }, { on := 40, ground := Go.Ground.data }, { on := 28, ground := Go.Ground.guard }], guard := some (28, true) }) (v := ?_) rfl (Or.inl ⟨by rfl, ?_⟩) ?_; rotate_left; (focus (intro w hSw; (try dsimp only at hSw); go_simp; (try (with_reducible rfl)); done)); try simp only [Act.put, List.setIfInBounds_toArray, List.set_cons_zero, List.set_cons_succ]) | (refine wpL_calm (o := { dst := some 110, op := Go.Op.binOp Go.BinOp.eql 9 (Go.Operand.tmp 103) (Go.Operand.tmp 109) 9, type := 4, pos := "law.go:87", after := #[{ on := 34, ground := Go.Ground.data }, { on := 40, ground := Go.Ground.data }, { on := 28, ground := Go.Ground.guard }], guard := some (28, true) }) (v := undef) rfl (Or.inr ⟨by rfl, rfl⟩) ?_; try simp only [Act.put, List.setIfInBounds_toArray, List.set_cons_zero, List.set_cons_succ])
  (refine wpL_calm (o := { dst := some 111, op := Go.Op.pick (Go.Operand.tmp 97) (Go.Operand.tmp 110) (Go.Operand.const (Go.Value.bool false)), type := 4, pos := "law.go:87", after := #[{ on := 28, ground := Go.Ground.data }, { on := 41, ground := Go.Ground.data }], guard := none }) (v := ?_) rfl (Or.inl ⟨by rfl, ?_⟩) ?_; rotate_left; (focus (intro w hSw; (try dsimp only at hSw); go_simp; (try (with_reducible rfl)); done)); try simp only [Act.put, List.setIfInBounds_toArray, List.set_cons_zero, List.set_cons_succ])
  (refine wpL_calm (o := { dst := some 112, op := Go.Op.move (Go.Operand.tmp 111), type := 4, pos := "law.go:87", after := #[{ on := 42, ground := Go.Ground.data }, { on := 28, ground := Go.Ground.chain }], guard := none }) (v := ?_) rfl (Or.inl ⟨by rfl, ?_⟩) ?_; rotate_left; (focus (intro w hSw; (try dsimp only at hSw); go_simp; (try (with_reducible rfl)); done)); try simp only [Act.put, List.setIfInBounds_toArray, List.set_cons_zero, List.set_cons_succ])
  first | (refine wpL_calm (o := { dst := some 113, op := Go.Op.move (Go.Operand.tmp 9), type := 9, pos := "law.go:87", after := #[{ on := 43, ground := Go.Ground.guard }], guard := some (43, true) }) (v := ?_) rfl (Or.inl ⟨by rfl, ?_⟩) ?_; rotate_left; (focus (intro w hSw; (try dsimp only at hSw); go_simp; (try (with_reducible rfl)); done)); try simp only [Act.put, List.setIfInBounds_toArray, List.set_cons_zero, List.set_cons_succ]) | (refine wpL_calm (o := { dst := some 113, op := Go.Op.move (Go.Operand.tmp 9), type := 9, pos := "law.go:87", after := #[{ on := 43, ground := Go.Ground.guard }], guard := some (43, true) }) (v := undef) rfl (Or.inr ⟨by rfl, rfl⟩) ?_; try simp only [Act.put, List.setIfInBounds_toArray, List.set_cons_zero, List.set_cons_succ])
  first | (refine wpL_calm (o := { dst := some 114, op := Go.Op.call { callee := Go.Callee.builtin Go.Builtin.len, args := #[Go.Operand.tmp 113], argTypes := #[9] }, type := 3, pos := "law.go:87", after := #[{ on := 44, ground := Go.Ground.data }, { on := 43, ground := Go.Ground.guard }], guard := some (43, true) }) (v := ?_) rfl (Or.inl ⟨by rfl, ?_⟩) ?_; rotate_left; (focus (intro w hSw; (try dsimp only at hSw); go_simp; (try (with_reducible rfl)); done)); try simp only [Act.put, List.setIfInBounds_toArray, List.set_cons_zero, List.set_cons_succ]) | (refine wpL_calm (o := { dst := some 114, op := Go.Op.call { callee := Go.Callee.builtin Go.Builtin.len, args := #[Go.Operand.tmp 113], argTypes := #[9] }, type := 3, pos := "law.go:87", after := #[{ on := 44, ground := Go.Ground.data }, { on := 43, ground := Go.Ground.guard }], guard := some (43, true) }) (v := undef) rfl (Or.inr ⟨by rfl, rfl⟩) ?_; try simp only [Act.put, List.setIfInBounds_toArray, List.set_cons_zero, List.set_cons_succ])
  first | (refine wpL_calm (o := { dst := some 115, op := Go.Op.binOp Go.BinOp.eql 3 (Go.Operand.tmp 114) (Go.Operand.const (Go.Value.int Go.IntKind.i64 64)) 3, type := 4, pos := "law.go:87", after := #[{ on := 45, ground := Go.Ground.data }, { on := 43, ground := Go.Ground.guard }], guard := some (43, true) }) (v := ?_) rfl (Or.inl ⟨by rfl, ?_⟩) ?_; rotate_left; (focus (intro w hSw; (try dsimp only at hSw); go_simp; (try (with_reducible rfl)); done)); try simp only [Act.put, List.setIfInBounds_toArray, List.set_cons_zero, List.set_cons_succ]) | (refine wpL_calm (o := { dst := some 115, op := Go.Op.binOp Go.BinOp.eql 3 (Go.Operand.tmp 114) (Go.Operand.const (Go.Value.int Go.IntKind.i64 64)) 3, type := 4, pos := "law.go:87", after := #[{ on := 45, ground := Go.Ground.data }, { on := 43, ground := Go.Ground.guard }], guard := some (43, true) }) (v := undef) rfl (Or.inr ⟨by rfl, rfl⟩) ?_; try simp only [Act.put, List.setIfInBounds_toArray, List.set_cons_zero, List.set_cons_succ])
  (refine wpL_calm (o := { dst := some 116, op := Go.Op.pick (Go.Operand.tmp 112) (Go.Operand.tmp 115) (Go.Operand.const (Go.Value.bool false)), type := 4, pos := "law.go:87", after := #[{ on := 43, ground := Go.Ground.data }, { on := 46, ground := Go.Ground.data }], guard := none }) (v := ?_) rfl (Or.inl ⟨by rfl, ?_⟩) ?_; rotate_left; (focus (intro w hSw; (try dsimp only at hSw); go_simp; (try (with_reducible rfl)); done)); try simp only [Act.put, List.setIfInBounds_toArray, List.set_cons_zero, List.set_cons_succ])
  (refine wpL_calm (o := { dst := some 6, op := Go.Op.assign (Go.Operand.tmp 116), type := 4, pos := "law.go:87", after := #[{ on := 47, ground := Go.Ground.data }, { on := 43, ground := Go.Ground.chain }, { on := 0, ground := Go.Ground.phase }, { on := 1, ground := Go.Ground.phase }, { on := 2, ground := Go.Ground.phase }, { on := 3, ground := Go.Ground.phase }, { on := 4, ground := Go.Ground.phase }, { on := 5, ground := Go.Ground.phase }, { on := 6, ground := Go.Ground.phase }, { on := 7, ground := Go.Ground.phase }, { on := 8, ground := Go.Ground.phase }, { on := 9, ground := Go.Ground.phase }, { on := 10, ground := Go.Ground.phase }, { on := 11, ground := Go.Ground.phase }, { on := 12, ground := Go.Ground.phase }, { on := 13, ground := Go.Ground.phase }, { on := 14, ground := Go.Ground.phase }, { on := 15, ground := Go.Ground.phase }, { on := 16, ground := Go.Ground.phase }, { on := 17, ground := Go.Ground.phase }, { on := 18, ground := Go.Ground.phase }, { on := 19, ground := Go.Ground.phase }, { on := 20, ground := Go.Ground.phase }, { on := 21, ground := Go.Ground.phase }, { on := 22, ground := Go.Ground.phase }, { on := 23, ground := Go.Ground.phase }, { on := 24, ground := Go.Ground.phase }, { on := 25, ground := Go.Ground.phase }, { on := 26, ground := Go.Ground.phase }, { on := 27, ground := Go.Ground.phase }, { on := 28, ground := Go.Ground.phase }, { on := 29, ground := Go.Ground.phase }, { on := 30, ground := Go.Ground.phase }, { on := 31, ground := Go.Ground.phase }, { on := 32, ground := Go.Ground.phase }, { on := 33, ground := Go.Ground.phase }, { on := 34, ground := Go.Ground.phase }, { on := 35, ground := Go.Ground.phase }, { on := 36, ground := Go.Ground.phase }, { on := 37, ground := Go.Ground.phase }, { on := 38, ground := Go.Ground.phase }, { on := 39, ground := Go.Ground.phase }, { on := 40, ground := Go.Ground.phase }, { on := 41, ground := Go.Ground.phase }, { on := 42, ground := Go.Ground.phase }, { on := 43, ground := Go.Ground.phase }, { on := 44, ground := Go.Ground.phase }, { on := 45, ground := Go.Ground.phase }, { on := 46, ground := Go.Ground.phase }, { on := 47, ground := Go.Ground.phase }], guard := none }) (v := ?_) rfl (Or.inl ⟨by rfl, ?_⟩) ?_; rotate_left; (focus (intro w hSw; (try dsimp only at hSw); go_simp; (try (with_reducible rfl)); done)); try simp only [Act.put, List.setIfInBounds_toArray, List.set_cons_zero, List.set_cons_succ])
  refine wpL_nil ?_
  refine NoPanic.normal ?_
  go_wp2_with fail
  go_ret
  exact ⟨rfl, by rw [HA.out]; exact B7⟩
set_option maxRecDepth 100000 in
set_option maxHeartbeats 4000000 in
theorem nodeSplits_1 (pl ql dl : List UInt8) (hp : pl.length = 32) (hq : ql.length = 32) (hd : dl.length = 32) (w : World) (hG : Gl w) : Calls Tryd.prog 5 #[.string (sB (pl ++ ql)), .int .i64 1, .agg (digA dl)] w fun e w' => e = .returned (.bool true) ∧ Below w.heap.size w w' := by
  have hz := zero_dig
  have H1 := halves_app pl ql hp hq
  have H2 := halves_app pl dl hp hd
  have HS := Lib.hid (fun w => split_1 _ _ _ w H1)
  have HW := Lib.hid (fun w => with_1 _ _ _ dl w H1 hd)
  have HS2 := Lib.hid (fun w => split_1 _ _ _ w H2)
  rw [sB_list] at HS HS2
  rw [sB_app] at HW
  have HCV : Hid (∀ (g : Nat) (w2 : World), w2.heap[g]? = some (.cells (digA ql) 33 (0, 0)) → (convert 43 9 (.slice (some ⟨g, 0, none⟩) 32 32)).run Tryd.prog w2 = .ok (.string (sB ql)) w2) := Lib.hid (fun g w2 h => conv_dig h hq)
  have hdx : (digA ql).size = 32 := by with_unfolding_all (rw [digA_size, hq])
  have hdd : (digA dl).size = 32 := by with_unfolding_all (rw [digA_size, hd])
  have hox : (digA ql).all (·.oneCell') = true := by with_unfolding_all exact digA_one _
  have hod : (digA dl).all (·.oneCell') = true := by with_unfolding_all exact digA_one _
  have heq := eql_dig dl hd
  have HDG : Hid ((bv dl).toArray = digA dl) := Lib.hid (by with_unfolding_all rfl)
  have HDL : Hid ((bv dl).length = 32) := Lib.hid (by unfold bv; rw [List.length_map]; exact hd)
  have hs64 := H1.hs
  have hb64 := H2.hs
  have x1 := H1.e0
  have x2 := H1.e1
  have y1 := H2.e0
  have y2 := H2.e1
  clear H1 H2 hp hq hd
  obtain ⟨w1, HW1, hr1, B1⟩ := stored_b w (digA dl) z32
  generalize sB (pl ++ ql) = s at *
  generalize sB (pl ++ dl) = b at *
  generalize digA ql = DX at *
  generalize digA dl = DD at *
  generalize bv dl = BV at *
  generalize sB pl = p at *
  generalize sB ql = q at *
  go_enter Tryd.func5, Tryd.ntmps5
  go_upto_region 1 with fail
  rw [HW1.out]
  clear HW1
  go_wp2_with fail
  refine (HS.out _).mono ?_
  rintro e w2 ⟨rfl, b2⟩
  have hr2 := (b2.block _ (Array.getElem?_eq_some_iff.1 hr1).1).trans hr1
  have B2 := B1.trans (b2.mono B1.size)
  clear b2 B1 hr1
  obtain ⟨w3, HW3, hd3, b3⟩ := stored_dg w2 DX
  have hr3 := (b3.block _ (Array.getElem?_eq_some_iff.1 hr2).1).trans hr2
  have B3 := B2.trans (b3.mono B2.size)
  have hq3 : w2.heap.size < w3.heap.size := (Array.getElem?_eq_some_iff.1 hd3).1
  clear b3 B2 hr2
  go_upto_region 2 with (refine wpList_store_row rfl _ _ _ rfl w2.heap.size DX rfl rfl 33 _ (heap_alloc_new _ _) (by rw [hdx]; with_unfolding_all kernel_rfl) (by rw [hdx]; with_unfolding_all rfl) hox ?_)
  rw [HW3.out]
  clear HW3
  generalize w2.heap.size = g7 at *
  go_wp2_with (refine wpList_load_row rfl _ _ rfl w.heap.size rfl 33 DD (0, 0) _ hr3 Tryd.underlying33 rfl (by rw [hdd]; with_unfolding_all kernel_rfl) ?_)
  refine (HW.out _).mono ?_
  rintro e w4 ⟨rfl, b4⟩
  have hd4 := (b4.block g7 hq3).trans hd3
  have hr4 := (b4.block _ (Array.getElem?_eq_some_iff.1 hr3).1).trans hr3
  have B4 := B3.trans (b4.mono B3.size)
  have hq4 := Nat.lt_of_lt_of_le hq3 b4.size
  clear b4 B3 hd3 hr3 hq3
  go_wp2_with fail
  refine (HS2.out _).mono ?_
  rintro e w5 ⟨rfl, b5⟩
  have hd5 := (b5.block g7 hq4).trans hd4
  have hr5 := (b5.block _ (Array.getElem?_eq_some_iff.1 hr4).1).trans hr4
  have B5 := B4.trans (b5.mono B4.size)
  have hq5 := Nat.lt_of_lt_of_le hq4 b5.size
  clear b5 B4 hd4 hr4 hq4
  obtain ⟨w6, HW6, hc6, b6⟩ := stored_dg w5 DD
  have hd6 := (b6.block g7 hq5).trans hd5
  have hr6 := (b6.block _ (Array.getElem?_eq_some_iff.1 hr5).1).trans hr5
  have B6 := B5.trans (b6.mono B5.size)
  have hq6 := Nat.lt_of_lt_of_le hq5 b6.size
  have hc6q : w5.heap.size < w6.heap.size := (Array.getElem?_eq_some_iff.1 hc6).1
  have hA6 : w.heap.size < w6.heap.size := (Array.getElem?_eq_some_iff.1 hr6).1
  clear b6 B5 hd5 hr5 hq5
  go_upto_region 12 with (refine wpList_store_row rfl _ _ _ rfl w5.heap.size DD rfl rfl 33 _ (heap_alloc_new _ _) (by rw [hdd]; with_unfolding_all kernel_rfl) (by rw [hdd]; with_unfolding_all rfl) hod ?_)
  rw [HW6.out]
  clear HW6
  generalize w5.heap.size = g12 at *
  generalize hA : w.heap.size = gA at *
  have HA := Lib.hid hA
  clear hA
  have wr0 : IntKind.i64.wrap 0 = 0 := by decide
  have wr3 : IntKind.i64.wrap 32 = 32 := by decide
  have wr4 : IntKind.i64.wrap 64 = 64 := by decide
  refine wp_region_lin (S := (fun w' => w'.heap[g7]? = some (.cells DX 33 (0, 0)) ∧ w'.heap[g12]? = some (.cells DD 33 (0, 0)) ∧ w'.heap[gA]? = some (.cells DD 33 (0, 0)))) [(0, false), (1, true), (2, true), (3, true), (4, true), (5, true), (6, true), (7, true), (8, true), (9, true), (10, true), (11, true), (12, true), (13, true), (14, true), (15, true), (16, true), (17, true), (18, true), (19, true), (20, true), (21, true), (22, true), (23, true), (24, true), (25, true), (26, true), (27, true), (28, true), (29, true), (30, true), (31, true), (32, true), (33, true), (34, true), (35, true), (36, true), (37, true), (38, true), (39, true), (40, true), (41, true), (42, true), (43, true), (44, true), (45, true), (46, true), (47, true), (48, true)] (by kernel_rfl) (by kernel_rfl) rfl (by kernel_rfl) ?_ (fun hHeld => ?_)
  · (try dsimp only); exact ⟨hd6, hc6, hr6⟩
  refine wpL_loud1 (o := { dst := some 69, op := Go.Op.call { callee := Go.Callee.value (Go.Operand.func 12), args := #[], argTypes := #[] }, type := 4, pos := "law.go:87", after := #[], guard := none }) rfl (fun K hK => ?_)
  (go_simp; go_at_call 12; refine (awake17 _ (hG.below (by rw [HA.out]; exact B6.drew))).mono ?_; rintro e w7 ⟨rfl, b7⟩; have B7 := B6.drew.trans (b7.mono (by have := B6.size; rw [HA.out] at this; exact this)))
  try go_wp2_with fail
  refine hK.out _ _ ?_ (fun hHeld => ?_)
  · (try dsimp only); exact ⟨(b7.block (w := w6.drew) g7 hq6).trans hd6, (b7.block (w := w6.drew) g12 hc6q).trans hc6, (b7.block (w := w6.drew) gA hA6).trans hr6⟩
  clear hK K
  try simp only [Act.put, List.setIfInBounds_toArray, List.set_cons_zero, List.set_cons_succ]
  (refine wpL_calm (o := { dst := some 70, op := Go.Op.move (Go.Operand.tmp 69), type := 4, pos := "law.go:87", after := #[{ on := 0, ground := Go.Ground.data }, { on := 0, ground := Go.Ground.chain }], guard := none }) (v := ?_) rfl (Or.inl ⟨by rfl, ?_⟩) ?_; rotate_left; (focus (intro w hSw; (try dsimp only at hSw); go_simp; (try (with_reducible rfl)); done)); try simp only [Act.put, List.setIfInBounds_toArray, List.set_cons_zero, List.set_cons_succ])
  first | (refine wpL_calm (o := { dst := some 71, op := Go.Op.move (Go.Operand.tmp 8), type := 23, pos := "law.go:87", after := #[{ on := 1, ground := Go.Ground.guard }], guard := some (1, true) }) (v := ?_) rfl (Or.inl ⟨by rfl, ?_⟩) ?_; rotate_left; (focus (intro w hSw; (try dsimp only at hSw); go_simp; (try (with_reducible rfl)); done)); try simp only [Act.put, List.setIfInBounds_toArray, List.set_cons_zero, List.set_cons_succ]) | (refine wpL_calm (o := { dst := some 71, op := Go.Op.move (Go.Operand.tmp 8), type := 23, pos := "law.go:87", after := #[{ on := 1, ground := Go.Ground.guard }], guard := some (1, true) }) (v := undef) rfl (Or.inr ⟨by rfl, rfl⟩) ?_; try simp only [Act.put, List.setIfInBounds_toArray, List.set_cons_zero, List.set_cons_succ])
  first | (refine wpL_calm (o := { dst := some 72, op := Go.Op.binOp Go.BinOp.eql 23 (Go.Operand.tmp 71) (Go.Operand.const (Go.Value.int Go.IntKind.i64 0)) 23, type := 4, pos := "law.go:87", after := #[{ on := 2, ground := Go.Ground.data }, { on := 1, ground := Go.Ground.guard }], guard := some (1, true) }) (v := ?_) rfl (Or.inl ⟨by rfl, ?_⟩) ?_; rotate_left; (focus (intro w hSw; (try dsimp only at hSw); go_simp; (try (with_reducible rfl)); done)); try simp only [Act.put, List.setIfInBounds_toArray, List.set_cons_zero, List.set_cons_succ]) | (refine wpL_calm (o := { dst := some 72, op := Go.Op.binOp Go.BinOp.eql 23 (Go.Operand.tmp 71) (Go.Operand.const (Go.Value.int Go.IntKind.i64 0)) 23, type := 4, pos := "law.go:87", after := #[{ on := 2, ground := Go.Ground.data }, { on := 1, ground := Go.Ground.guard }], guard := some (1, true) }) (v := undef) rfl (Or.inr ⟨by rfl, rfl⟩) ?_; try simp only [Act.put, List.setIfInBounds_toArray, List.set_cons_zero, List.set_cons_succ])
  (refine wpL_calm (o := { dst := some 73, op := Go.Op.pick (Go.Operand.tmp 70) (Go.Operand.tmp 72) (Go.Operand.const (Go.Value.bool false)), type := 4, pos := "law.go:87", after := #[{ on := 1, ground := Go.Ground.data }, { on := 3, ground := Go.Ground.data }], guard := none }) (v := ?_) rfl (Or.inl ⟨by rfl, ?_⟩) ?_; rotate_left; (focus (intro w hSw; (try dsimp only at hSw); go_simp; (try (with_reducible rfl)); done)); try simp only [Act.put, List.setIfInBounds_toArray, List.set_cons_zero, List.set_cons_succ])
  (refine wpL_calm (o := { dst := some 74, op := Go.Op.move (Go.Operand.tmp 73), type := 4, pos := "law.go:87", after := #[{ on := 4, ground := Go.Ground.data }, { on := 1, ground := Go.Ground.chain }], guard := none }) (v := ?_) rfl (Or.inl ⟨by rfl, ?_⟩) ?_; rotate_left; (focus (intro w hSw; (try dsimp only at hSw); go_simp; (try (with_reducible rfl)); done)); try simp only [Act.put, List.setIfInBounds_toArray, List.set_cons_zero, List.set_cons_succ])
  first | (refine wpL_calm (o := { dst := some 75, op := Go.Op.move (Go.Operand.tmp 10), type := 23, pos := "law.go:87", after := #[{ on := 5, ground := Go.Ground.guard }], guard := some (5, true) }) (v := ?_) rfl (Or.inl ⟨by rfl, ?_⟩) ?_; rotate_left; (focus (intro w hSw; (try dsimp only at hSw); go_simp; (try (with_reducible rfl)); done)); try simp only [Act.put, List.setIfInBounds_toArray, List.set_cons_zero, List.set_cons_succ]) | (refine wpL_calm (o := { dst := some 75, op := Go.Op.move (Go.Operand.tmp 10), type := 23, pos := "law.go:87", after := #[{ on := 5, ground := Go.Ground.guard }], guard := some (5, true) }) (v := undef) rfl (Or.inr ⟨by rfl, rfl⟩) ?_; try simp only [Act.put, List.setIfInBounds_toArray, List.set_cons_zero, List.set_cons_succ])
  first | (refine wpL_calm (o := { dst := some 76, op := Go.Op.binOp Go.BinOp.eql 23 (Go.Operand.tmp 75) (Go.Operand.const (Go.Value.int Go.IntKind.i64 0)) 23, type := 4, pos := "law.go:87", after := #[{ on := 6, ground := Go.Ground.data }, { on := 5, ground := Go.Ground.guard }], guard := some (5, true) }) (v := ?_) rfl (Or.inl ⟨by rfl, ?_⟩) ?_; rotate_left; (focus (intro w hSw; (try dsimp only at hSw); go_simp; (try (with_reducible rfl)); done)); try simp only [Act.put, List.setIfInBounds_toArray, List.set_cons_zero, List.set_cons_succ]) | (refine wpL_calm (o := { dst := some 76, op := Go.Op.binOp Go.BinOp.eql 23 (Go.Operand.tmp 75) (Go.Operand.const (Go.Value.int Go.IntKind.i64 0)) 23, type := 4, pos := "law.go:87", after := #[{ on := 6, ground := Go.Ground.data }, { on := 5, ground := Go.Ground.guard }], guard := some (5, true) }) (v := undef) rfl (Or.inr ⟨by rfl, rfl⟩) ?_; try simp only [Act.put, List.setIfInBounds_toArray, List.set_cons_zero, List.set_cons_succ])
  (refine wpL_calm (o := { dst := some 77, op := Go.Op.pick (Go.Operand.tmp 74) (Go.Operand.tmp 76) (Go.Operand.const (Go.Value.bool false)), type := 4, pos := "law.go:87", after := #[{ on := 5, ground := Go.Ground.data }, { on := 7, ground := Go.Ground.data }], guard := none }) (v := ?_) rfl (Or.inl ⟨by rfl, ?_⟩) ?_; rotate_left; (focus (intro w hSw; (try dsimp only at hSw); go_simp; (try (with_reducible rfl)); done)); try simp only [Act.put, List.setIfInBounds_toArray, List.set_cons_zero, List.set_cons_succ])
  (refine wpL_calm (o := { dst := some 78, op := Go.Op.move (Go.Operand.tmp 77), type := 4, pos := "law.go:87", after := #[{ on := 8, ground := Go.Ground.data }, { on := 5, ground := Go.Ground.chain }], guard := none }) (v := ?_) rfl (Or.inl ⟨by rfl, ?_⟩) ?_; rotate_left; (focus (intro w hSw; (try dsimp only at hSw); go_simp; (try (with_reducible rfl)); done)); try simp only [Act.put, List.setIfInBounds_toArray, List.set_cons_zero, List.set_cons_succ])
  first | (refine wpL_calm (o := { dst := some 79, op := Go.Op.move (Go.Operand.tmp 13), type := 23, pos := "law.go:87", after := #[{ on := 9, ground := Go.Ground.guard }], guard := some (9, true) }) (v := ?_) rfl (Or.inl ⟨by rfl, ?_⟩) ?_; rotate_left; (focus (intro w hSw; (try dsimp only at hSw); go_simp; (try (with_reducible rfl)); done)); try simp only [Act.put, List.setIfInBounds_toArray, List.set_cons_zero, List.set_cons_succ]) | (refine wpL_calm (o := { dst := some 79, op := Go.Op.move (Go.Operand.tmp 13), type := 23, pos := "law.go:87", after := #[{ on := 9, ground := Go.Ground.guard }], guard := some (9, true) }) (v := undef) rfl (Or.inr ⟨by rfl, rfl⟩) ?_; try simp only [Act.put, List.setIfInBounds_toArray, List.set_cons_zero, List.set_cons_succ])
  first | (refine wpL_calm (o := { dst := some 80, op := Go.Op.binOp Go.BinOp.eql 23 (Go.Operand.tmp 79) (Go.Operand.const (Go.Value.int Go.IntKind.i64 0)) 23, type := 4, pos := "law.go:87", after := #[{ on := 10, ground := Go.Ground.data }, { on := 9, ground := Go.Ground.guard }], guard := some (9, true) }) (v := ?_) rfl (Or.inl ⟨by rfl, ?_⟩) ?_; rotate_left; (focus (intro w hSw; (try dsimp only at hSw); go_simp; (try (with_reducible rfl)); done)); try simp only [Act.put, List.setIfInBounds_toArray, List.set_cons_zero, List.set_cons_succ]) | (refine wpL_calm (o := { dst := some 80, op := Go.Op.binOp Go.BinOp.eql 23 (Go.Operand.tmp 79) (Go.Operand.const (Go.Value.int Go.IntKind.i64 0)) 23, type := 4, pos := "law.go:87", after := #[{ on := 10, ground := Go.Ground.data }, { on := 9, ground := Go.Ground.guard }], guard := some (9, true) }) (v := undef) rfl (Or.inr ⟨by rfl, rfl⟩) ?_; try simp only [Act.put, List.setIfInBounds_toArray, List.set_cons_zero, List.set_cons_succ])
  (refine wpL_calm (o := { dst := some 81, op := Go.Op.pick (Go.Operand.tmp 78) (Go.Operand.tmp 80) (Go.Operand.const (Go.Value.bool false)), type := 4, pos := "law.go:87", after := #[{ on := 9, ground := Go.Ground.data }, { on := 11, ground := Go.Ground.data }], guard := none }) (v := ?_) rfl (Or.inl ⟨by rfl, ?_⟩) ?_; rotate_left; (focus (intro w hSw; (try dsimp only at hSw); go_simp; (try (with_reducible rfl)); done)); try simp only [Act.put, List.setIfInBounds_toArray, List.set_cons_zero, List.set_cons_succ])
  (refine wpL_calm (o := { dst := some 82, op := Go.Op.move (Go.Operand.tmp 81), type := 4, pos := "law.go:87", after := #[{ on := 12, ground := Go.Ground.data }, { on := 9, ground := Go.Ground.chain }], guard := none }) (v := ?_) rfl (Or.inl ⟨by rfl, ?_⟩) ?_; rotate_left; (focus (intro w hSw; (try dsimp only at hSw); go_simp; (try (with_reducible rfl)); done)); try simp only [Act.put, List.setIfInBounds_toArray, List.set_cons_zero, List.set_cons_succ])
  first | (refine wpL_calm (o := { dst := some 83, op := Go.Op.slice 33 (Go.Operand.tmp 7) none none none, type := 43, pos := "law.go:87", after := #[{ on := 13, ground := Go.Ground.guard }], guard := some (13, true) }) (v := ?_) rfl (Or.inl ⟨by rfl, ?_⟩) ?_; rotate_left; (focus (intro w hSw; (try dsimp only at hSw); go_simp; (try (with_reducible rfl)); done)); try simp only [Act.put, List.setIfInBounds_toArray, List.set_cons_zero, List.set_cons_succ]) | (refine wpL_calm (o := { dst := some 83, op := Go.Op.slice 33 (Go.Operand.tmp 7) none none none, type := 43, pos := "law.go:87", after := #[{ on := 13, ground := Go.Ground.guard }], guard := some (13, true) }) (v := undef) rfl (Or.inr ⟨by rfl, rfl⟩) ?_; try simp only [Act.put, List.setIfInBounds_toArray, List.set_cons_zero, List.set_cons_succ])
  refine wpL_calm (o := { dst := some 84, op := Go.Op.convert 43 9 (Go.Operand.tmp 83), type := 9, pos := "law.go:87", after := #[{ on := 14, ground := Go.Ground.data }, { on := 13, ground := Go.Ground.guard }], guard := some (13, true) }) (v := .string q) rfl (Or.inl ⟨by rfl, ?_⟩) ?_; (focus (intro w hSw; have hl := HCV.out _ _ hSw.1; go_simp))
  try simp only [Act.put, List.setIfInBounds_toArray, List.set_cons_zero, List.set_cons_succ]
  first | (refine wpL_calm (o := { dst := some 85, op := Go.Op.move (Go.Operand.tmp 0), type := 9, pos := "law.go:87", after := #[{ on := 13, ground := Go.Ground.guard }], guard := some (13, true) }) (v := ?_) rfl (Or.inl ⟨by rfl, ?_⟩) ?_; rotate_left; (focus (intro w hSw; (try dsimp only at hSw); go_simp; (try (with_reducible rfl)); done)); try simp only [Act.put, List.setIfInBounds_toArray, List.set_cons_zero, List.set_cons_succ]) | (refine wpL_calm (o := { dst := some 85, op := Go.Op.move (Go.Operand.tmp 0), type := 9, pos := "law.go:87", after := #[{ on := 13, ground := Go.Ground.guard }], guard := some (13, true) }) (v := undef) rfl (Or.inr ⟨by rfl, rfl⟩) ?_; try simp only [Act.put, List.setIfInBounds_toArray, List.set_cons_zero, List.set_cons_succ])
  first | (refine wpL_calm (o := { dst := some 86, op := Go.Op.move (Go.Operand.tmp 14), type := 3, pos := "law.go:87", after := #[{ on := 13, ground := Go.Ground.guard }], guard := some (13, true) }) (v := ?_) rfl (Or.inl ⟨by rfl, ?_⟩) ?_; rotate_left; (focus (intro w hSw; (try dsimp only at hSw); go_simp; (try (with_reducible rfl)); done)); try simp only [Act.put, List.setIfInBounds_toArray, List.set_cons_zero, List.set_cons_succ]) | (refine wpL_calm (o := { dst := some 86, op := Go.Op.move (Go.Operand.tmp 14), type := 3, pos := "law.go:87", after := #[{ on := 13, ground := Go.Ground.guard }], guard := some (13, true) }) (v := undef) rfl (Or.inr ⟨by rfl, rfl⟩) ?_; try simp only [Act.put, List.setIfInBounds_toArray, List.set_cons_zero, List.set_cons_succ])
  first | (refine wpL_calm (o := { dst := some 87, op := Go.Op.move (Go.Operand.tmp 14), type := 3, pos := "law.go:87", after := #[{ on := 13, ground := Go.Ground.guard }], guard := some (13, true) }) (v := ?_) rfl (Or.inl ⟨by rfl, ?_⟩) ?_; rotate_left; (focus (intro w hSw; (try dsimp only at hSw); go_simp; (try (with_reducible rfl)); done)); try simp only [Act.put, List.setIfInBounds_toArray, List.set_cons_zero, List.set_cons_succ]) | (refine wpL_calm (o := { dst := some 87, op := Go.Op.move (Go.Operand.tmp 14), type := 3, pos := "law.go:87", after := #[{ on := 13, ground := Go.Ground.guard }], guard := some (13, true) }) (v := undef) rfl (Or.inr ⟨by rfl, rfl⟩) ?_; try simp only [Act.put, List.setIfInBounds_toArray, List.set_cons_zero, List.set_cons_succ])
  first | (refine wpL_calm (o := { dst := some 88, op := Go.Op.binOp Go.BinOp.add 3 (Go.Operand.tmp 87) (Go.Operand.const (Go.Value.int Go.IntKind.i64 32)) 3, type := 3, pos := "law.go:87", after := #[{ on := 18, ground := Go.Ground.data }, { on := 13, ground := Go.Ground.guard }], guard := some (13, true) }) (v := ?_) rfl (Or.inl ⟨by rfl, ?_⟩) ?_; rotate_left; (focus (intro w hSw; (try dsimp only at hSw); go_simp; (try (with_reducible rfl)); done)); try simp only [Act.put, List.setIfInBounds_toArray, List.set_cons_zero, List.set_cons_succ]) | (refine wpL_calm (o := { dst := some 88, op := Go.Op.binOp Go.BinOp.add 3 (Go.Operand.tmp 87) (Go.Operand.const (Go.Value.int Go.IntKind.i64 32)) 3, type := 3, pos := "law.go:87", after := #[{ on := 18, ground := Go.Ground.data }, { on := 13, ground := Go.Ground.guard }], guard := some (13, true) }) (v := undef) rfl (Or.inr ⟨by rfl, rfl⟩) ?_; try simp only [Act.put, List.setIfInBounds_toArray, List.set_cons_zero, List.set_cons_succ])
  first | (refine wpL_calm (o := { dst := some 89, op := Go.Op.slice 9 (Go.Operand.tmp 85) (some (Go.Operand.tmp 86)) (some (Go.Operand.tmp 88)) none, type := 9, pos := "law.go:87", after := #[{ on := 16, ground := Go.Ground.data }, { on := 17, ground := Go.Ground.data }, { on := 19, ground := Go.Ground.data }, { on := 13, ground := Go.Ground.guard }], guard := some (13, true) }) (v := ?_) rfl (Or.inl ⟨by rfl, ?_⟩) ?_; rotate_left; (focus (intro w hSw; (try dsimp only at hSw); go_simp; (try (with_reducible rfl)); done)); try simp only [Act.put, List.setIfInBounds_toArray, List.set_cons_zero, List.set_cons_succ]) | (refine wpL_calm (o := { dst := some 89, op := Go.Op.slice 9 (Go.Operand.tmp 85) (some (Go.Operand.tmp 86)) (some (Go.Operand.tmp 88)) none, type := 9, pos := "law.go:87", after := #[{ on := 16, ground := Go.Ground.data }, { on := 17, ground := Go.Ground.data }, { on := 19, ground := Go.Ground.data }, { on := 13, ground := Go.Ground.guard }], guard := some (13, true) }) (v := undef) rfl (Or.inr ⟨by rfl, rfl⟩) ?_; try simp only [Act.put, List.setIfInBounds_toArray, List.set_cons_zero, List.set_cons_succ])
  first | (refine wpL_calm (o := { dst := some 90, op := Go.Op.binOp Go.BinOp.eql 9 (Go.Operand.tmp 84) (Go.Operand.tmp 89) 9, type := 4, pos := "law.go:87", after := #[{ on := 15, ground := Go.Ground.data }, { on := 20, ground := Go.Ground.data }, { on := 13, ground := Go.Ground.guard }], guard := some (13, true) }) (v := ?_) rfl (Or.inl ⟨by rfl, ?_⟩) ?_; rotate_left; (focus (intro w hSw; (try dsimp only at hSw); go_simp; (try (with_reducible rfl)); done)); try simp only [Act.put, List.setIfInBounds_toArray, List.set_cons_zero, List.set_cons_succ]) | (refine wpL_calm (o := { dst := some 90, op := Go.Op.binOp Go.BinOp.eql 9 (Go.Operand.tmp 84) (Go.Operand.tmp 89) 9, type := 4, pos := "law.go:87", after := #[{ on := 15, ground := Go.Ground.data }, { on := 20, ground := Go.Ground.data }, { on := 13, ground := Go.Ground.guard }], guard := some (13, true) }) (v := undef) rfl (Or.inr ⟨by rfl, rfl⟩) ?_; try simp only [Act.put, List.setIfInBounds_toArray, List.set_cons_zero, List.set_cons_succ])
  (refine wpL_calm (o := { dst := some 91, op := Go.Op.pick (Go.Operand.tmp 82) (Go.Operand.tmp 90) (Go.Operand.const (Go.Value.bool false)), type := 4, pos := "law.go:87", after := #[{ on := 13, ground := Go.Ground.data }, { on := 21, ground := Go.Ground.data }], guard := none }) (v := ?_) rfl (Or.inl ⟨by rfl, ?_⟩) ?_; rotate_left; (focus (intro w hSw; (try dsimp only at hSw); go_simp; (try (with_reducible rfl)); done)); try simp only [Act.put, List.setIfInBounds_toArray, List.set_cons_zero, List.set_cons_succ])
  (refine wpL_calm (o := { dst := some 92, op := Go.Op.move (Go.Operand.tmp 91), type := 4, pos := "law.go:87", after := #[{ on := 22, ground := Go.Ground.data }, { on := 13, ground := Go.Ground.chain }], guard := none }) (v := ?_) rfl (Or.inl ⟨by rfl, ?_⟩) ?_; rotate_left; (focus (intro w hSw; (try dsimp only at hSw); go_simp; (try (with_reducible rfl)); done)); try simp only [Act.put, List.setIfInBounds_toArray, List.set_cons_zero, List.set_cons_succ])
  refine wpL_calm (o := { dst := some 93, op := Go.Op.load 33 (Go.Operand.tmp 12), type := 33, pos := "law.go:87", after := #[{ on := 23, ground := Go.Ground.guard }], guard := some (23, true) }) rfl (yieldsIf_load_mid (by rfl) _ _ rfl g12 0 rfl BV _ (fun _ h => range_dg h.2.1 HDG.out) Tryd.underlying33 rfl (by rw [HDL.out]; kernel_rfl)) ?_; rw [HDG.out]
  try simp only [Act.put, List.setIfInBounds_toArray, List.set_cons_zero, List.set_cons_succ]
  refine wpL_calm (o := { dst := some 94, op := Go.Op.load 33 (Go.Operand.tmp 5), type := 33, pos := "law.go:87", after := #[{ on := 23, ground := Go.Ground.guard }], guard := some (23, true) }) rfl (yieldsIf_load_mid (by rfl) _ _ rfl gA 0 rfl BV _ (fun _ h => range_dg h.2.2 HDG.out) Tryd.underlying33 rfl (by rw [HDL.out]; kernel_rfl)) ?_; rw [HDG.out]
  try simp only [Act.put, List.setIfInBounds_toArray, List.set_cons_zero, List.set_cons_succ]
  first | (refine wpL_calm (o := { dst := some 95, op := Go.Op.binOp Go.BinOp.eql 33 (Go.Operand.tmp 93) (Go.Operand.tmp 94) 33, type := 4, pos := "law.go:87", after := #[{ on := 24, ground := Go.Ground.data }, { on := 25, ground := Go.Ground.data }, { on := 23, ground := Go.Ground.guard }], guard := some (23, true) }) (v := ?_) rfl (Or.inl ⟨by rfl, ?_⟩) ?_; rotate_left; (focus (intro w hSw; (try dsimp only at hSw); go_simp; (try (with_reducible rfl)); done)); try simp only [Act.put, List.setIfInBounds_toArray, List.set_cons_zero, List.set_cons_succ]) | (refine wpL_calm (o := { dst := some 95, op := Go.Op.binOp Go.BinOp.eql 33 (Go.Operand.tmp 93) (Go.Operand.tmp 94) 33, type := 4, pos := "law.go:87", after := #[{ on := 24, ground := Go.Ground.data }, { on := 25, ground := Go.Ground.data }, { on := 23, ground := Go.Ground.guard }], guard := some (23, true) }) (v := undef) rfl (Or.inr ⟨by rfl, rfl⟩) ?_; try simp only [Act.put, List.setIfInBounds_toArray, List.set_cons_zero, List.set_cons_succ])
  (refine wpL_calm (o := { dst := some 96, op := Go.Op.pick (Go.Operand.tmp 92) (Go.Operand.tmp 95) (Go.Operand.const (Go.Value.bool false)), type := 4, pos := "law.go:87", after := #[{ on := 23, ground := Go.Ground.data }, { on := 26, ground := Go.Ground.data }], guard := none }) (v := ?_) rfl (Or.inl ⟨by rfl, ?_⟩) ?_; rotate_left; (focus (intro w hSw; (try dsimp only at hSw); go_simp; (try (with_reducible rfl)); done)); try simp only [Act.put, List.setIfInBounds_toArray, List.set_cons_zero, List.set_cons_succ])
  (refine wpL_calm (o := { dst := some 97, op := Go.Op.move (Go.Operand.tmp 96), type := 4, pos := "law.go:87", after := #[{ on := 27, ground := Go.Ground.data }, { on := 23, ground := Go.Ground.chain }], guard := none }) (v := ?_) rfl (Or.inl ⟨by rfl, ?_⟩) ?_; rotate_left; (focus (intro w hSw; (try dsimp only at hSw); go_simp; (try (with_reducible rfl)); done)); try simp only [Act.put, List.setIfInBounds_toArray, List.set_cons_zero, List.set_cons_succ])
  first | (refine wpL_calm (o := { dst := some 98, op := Go.Op.move (Go.Operand.tmp 9), type := 9, pos := "law.go:87", after := #[{ on := 28, ground := Go.Ground.guard }], guard := some (28, true) }) (v := ?_) rfl (Or.inl ⟨by rfl, ?_⟩) ?_; rotate_left; (focus (intro w hSw; (try dsimp only at hSw); go_simp; (try (with_reducible rfl)); done)); try simp only [Act.put, List.setIfInBounds_toArray, List.set_cons_zero, List.set_cons_succ]) | (refine wpL_calm (o := { dst := some 98, op := Go.Op.move (Go.Operand.tmp 9), type := 9, pos := "law.go:87", after := #[{ on := 28, ground := Go.Ground.guard }], guard := some (28, true) }) (v := undef) rfl (Or.inr ⟨by rfl, rfl⟩) ?_; try simp only [Act.put, List.setIfInBounds_toArray, List.set_cons_zero, List.set_cons_succ])
  first | (refine wpL_calm (o := { dst := some 99, op := Go.Op.move (Go.Operand.tmp 14), type := 3, pos := "law.go:87", after := #[{ on := 28, ground := Go.Ground.guard }], guard := some (28, true) }) (v := ?_) rfl (Or.inl ⟨by rfl, ?_⟩) ?_; rotate_left; (focus (intro w hSw; (try dsimp only at hSw); go_simp; (try (with_reducible rfl)); done)); try simp only [Act.put, List.setIfInBounds_toArray, List.set_cons_zero, List.set_cons_succ]) | (refine wpL_calm (o := { dst := some 99, op := Go.Op.move (Go.Operand.tmp 14), type := 3, pos := "law.go:87", after := #[{ on := 28, ground := Go.Ground.guard }], guard := some (28, true) }) (v := undef) rfl (Or.inr ⟨by rfl, rfl⟩) ?_; try simp only [Act.put, List.setIfInBounds_toArray, List.set_cons_zero, List.set_cons_succ])
  first | (refine wpL_calm (o := { dst := some 100, op := Go.Op.binOp Go.BinOp.sub 3 (Go.Operand.const (Go.Value.int Go.IntKind.i64 32)) (Go.Operand.tmp 99) 3, type := 3, pos := "law.go:87", after := #[{ on := 30, ground := Go.Ground.data }, { on := 28, ground := Go.Ground.guard }], guard := some (28, true) }) (v := ?_) rfl (Or.inl ⟨by rfl, ?_⟩) ?_; rotate_left; (focus (intro w hSw; (try dsimp only at hSw); go_simp; (try (with_reducible rfl)); done)); try simp only [Act.put, List.setIfInBounds_toArray, List.set_cons_zero, List.set_cons_succ]) | (refine wpL_calm (o := { dst := some 100, op := Go.Op.binOp Go.BinOp.sub 3 (Go.Operand.const (Go.Value.int Go.IntKind.i64 32)) (Go.Operand.tmp 99) 3, type := 3, pos := "law.go:87", after := #[{ on := 30, ground := Go.Ground.data }, { on := 28, ground := Go.Ground.guard }], guard := some (28, true) }) (v := undef) rfl (Or.inr ⟨by rfl, rfl⟩) ?_; try simp only [Act.put, List.setIfInBounds_toArray, List.set_cons_zero, List.set_cons_succ])
  first | (refine wpL_calm (o := { dst := some 101, op := Go.Op.move (Go.Operand.tmp 14), type := 3, pos := "law.go:87", after := #[{ on := 28, ground := Go.Ground.guard }], guard := some (28, true) }) (v := ?_) rfl (Or.inl ⟨by rfl, ?_⟩) ?_; rotate_left; (focus (intro w hSw; (try dsimp only at hSw); go_simp; (try (with_reducible rfl)); done)); try simp only [Act.put, List.setIfInBounds_toArray, List.set_cons_zero, List.set_cons_succ]) | (refine wpL_calm (o := { dst := some 101, op := Go.Op.move (Go.Operand.tmp 14), type := 3, pos := "law.go:87", after := #[{ on := 28, ground := Go.Ground.guard }], guard := some (28, true) }) (v := undef) rfl (Or.inr ⟨by rfl, rfl⟩) ?_; try simp only [Act.put, List.setIfInBounds_toArray, List.set_cons_zero, List.set_cons_succ])
  first | (refine wpL_calm (o := { dst := some 102, op := Go.Op.binOp Go.BinOp.sub 3 (Go.Operand.const (Go.Value.int Go.IntKind.i64 64)) (Go.Operand.tmp 101) 3, type := 3, pos := "law.go:87", after := #[{ on := 32, ground := Go.Ground.data }, { on := 28, ground := Go.Ground.guard }], guard := some (28, true) }) (v := ?_) rfl (Or.inl ⟨by rfl, ?_⟩) ?_; rotate_left; (focus (intro w hSw; (try dsimp only at hSw); go_simp; (try (with_reducible rfl)); done)); try simp only [Act.put, List.setIfInBounds_toArray, List.set_cons_zero, List.set_cons_succ]) | (refine wpL_calm (o := { dst := some 102, op := Go.Op.binOp Go.BinOp.sub 3 (Go.Operand.const (Go.Value.int Go.IntKind.i64 64)) (Go.Operand.tmp 101) 3, type := 3, pos := "law.go:87", after := #[{ on := 32, ground := Go.Ground.data }, { on := 28, ground := Go.Ground.guard }], guard := some (28, true) }) (v := undef) rfl (Or.inr ⟨by rfl, rfl⟩) ?_; try simp only [Act.put, List.setIfInBounds_toArray, List.set_cons_zero, List.set_cons_succ])
  first | (refine wpL_calm (o := { dst := some 103, op := Go.Op.slice 9 (Go.Operand.tmp 98) (some (Go.Operand.tmp 100)) (some (Go.Operand.tmp 102)) none, type := 9, pos := "law.go:87", after := #[{ on := 29, ground := Go.Ground.data }, { on := 31, ground := Go.Ground.data }, { on := 33, ground := Go.Ground.data }, { on := 28, ground := Go.Ground.guard }], guard := some (28, true) }) (v := ?_) rfl (Or.inl ⟨by rfl, ?_⟩) ?_; rotate_left; (focus (intro w hSw; (try dsimp only at hSw); go_simp; (try (with_reducible rfl)); done)); try simp only [Act.put, List.setIfInBounds_toArray, List.set_cons_zero, List.set_cons_succ]) | (refine wpL_calm (o := { dst := some 103, op := Go.Op.slice 9 (Go.Operand.tmp 98) (some (Go.Operand.tmp 100)) (some (Go.Operand.tmp 102)) none, type := 9, pos := "law.go:87", after := #[{ on := 29, ground := Go.Ground.data }, { on := 31, ground := Go.Ground.data }, { on := 33, ground := Go.Ground.data }, { on := 28, ground := Go.Ground.guard }], guard := some (28, true) }) (v := undef) rfl (Or.inr ⟨by rfl, rfl⟩) ?_; try simp only [Act.put, List.setIfInBounds_toArray, List.set_cons_zero, List.set_cons_succ])
  first | (refine wpL_calm (o := { dst := some 104, op := Go.Op.move (Go.Operand.tmp 0), type := 9, pos := "law.go:87", after := #[{ on := 28, ground := Go.Ground.guard }], guard := some (28, true) }) (v := ?_) rfl (Or.inl ⟨by rfl, ?_⟩) ?_; rotate_left; (focus (intro w hSw; (try dsimp only at hSw); go_simp; (try (with_reducible rfl)); done)); try simp only [Act.put, List.setIfInBounds_toArray, List.set_cons_zero, List.set_cons_succ]) | (refine wpL_calm (o := { dst := some 104, op := Go.Op.move (Go.Operand.tmp 0), type := 9, pos := "law.go:87", after := #[{ on := 28, ground := Go.Ground.guard }], guard := some (28, true) }) (v := undef) rfl (Or.inr ⟨by rfl, rfl⟩) ?_; try simp only [Act.put, List.setIfInBounds_toArray, List.set_cons_zero, List.set_cons_succ])
  first | (refine wpL_calm (o := { dst := some 105, op := Go.Op.move (Go.Operand.tmp 14), type := 3, pos := "law.go:87", after := #[{ on := 28, ground := Go.Ground.guard }], guard := some (28, true) }) (v := ?_) rfl (Or.inl ⟨by rfl, ?_⟩) ?_; rotate_left; (focus (intro w hSw; (try dsimp only at hSw); go_simp; (try (with_reducible rfl)); done)); try simp only [Act.put, List.setIfInBounds_toArray, List.set_cons_zero, List.set_cons_succ]) | (refine wpL_calm (o := { dst := some 105, op := Go.Op.move (Go.Operand.tmp 14), type := 3, pos := "law.go:87", after := #[{ on := 28, ground := Go.Ground.guard }], guard := some (28, true) }) (v := undef) rfl (Or.inr ⟨by rfl, rfl⟩) ?_; try simp only [Act.put, List.setIfInBounds_toArray, List.set_cons_zero, List.set_cons_succ])
  first | (refine wpL_calm (o := { dst := some 106, op := Go.Op.binOp Go.BinOp.sub 3 (Go.Operand.const (Go.Value.int Go.IntKind.i64 32)) (Go.Operand.tmp 105) 3, type := 3, pos := "law.go:87", after := #[{ on := 36, ground := Go.Ground.data }, { on := 28, ground := Go.Ground.guard }], guard := some (28, true) }) (v := ?_) rfl (Or.inl ⟨by rfl, ?_⟩) ?_; rotate_left; (focus (intro w hSw; (try dsimp only at hSw); go_simp; (try (with_reducible rfl)); done)); try simp only [Act.put, List.setIfInBounds_toArray, List.set_cons_zero, List.set_cons_succ]) | (refine wpL_calm (o := { dst := some 106, op := Go.Op.binOp Go.BinOp.sub 3 (Go.Operand.const (Go.Value.int Go.IntKind.i64 32)) (Go.Operand.tmp 105) 3, type := 3, pos := "law.go:87", after := #[{ on := 36, ground := Go.Ground.data }, { on := 28, ground := Go.Ground.guard }], guard := some (28, true) }) (v := undef) rfl (Or.inr ⟨by rfl, rfl⟩) ?_; try simp only [Act.put, List.setIfInBounds_toArray, List.set_cons_zero, List.set_cons_succ])
  first | (refine wpL_calm (o := { dst := some 107, op := Go.Op.move (Go.Operand.tmp 14), type := 3, pos := "law.go:87", after := #[{ on := 28, ground := Go.Ground.guard }], guard := some (28, true) }) (v := ?_) rfl (Or.inl ⟨by rfl, ?_⟩) ?_; rotate_left; (focus (intro w hSw; (try dsimp only at hSw); go_simp; (try (with_reducible rfl)); done)); try simp only [Act.put, List.setIfInBounds_toArray, List.set_cons_zero, List.set_cons_succ]) | (refine wpL_calm (o := { dst := some 107, op := Go.Op.move (Go.Operand.tmp 14), type := 3, pos := "law.go:87", after := #[{ on := 28, ground := Go.Ground.guard }], guard := some (28, true) }) (v := undef) rfl (Or.inr ⟨by rfl, rfl⟩) ?_; try simp only [Act.put, List.setIfInBounds_toArray, List.set_cons_zero, List.set_cons_succ])
  first | (refine wpL_calm (o := { dst := some 108, op := Go.Op.binOp Go.BinOp.sub 3 (Go.Operand.const (Go.Value.int Go.IntKind.i64 64)) (Go.Operand.tmp 107) 3, type := 3, pos := "law.go:87", after := #[{ on := 38, ground := Go.Ground.data }, { on := 28, ground := Go.Ground.guard }], guard := some (28, true) }) (v := ?_) rfl (Or.inl ⟨by rfl, ?_⟩) ?_; rotate_left; (focus (intro w hSw; (try dsimp only at hSw); go_simp; (try (with_reducible rfl)); done)); try simp only [Act.put, List.setIfInBounds_toArray, List.set_cons_zero, List.set_cons_succ]) | (refine wpL_calm (o := { dst := some 108, op := Go.Op.binOp Go.BinOp.sub 3 (Go.Operand.const (Go.Value.int Go.IntKind.i64 64)) (Go.Operand.tmp 107) 3, type := 3, pos := "law.go:87", after := #[{ on := 38, ground := Go.Ground.data }, { on := 28, ground := Go.Ground.guard }], guard := some (28, true) }) (v := undef) rfl (Or.inr ⟨by rfl, rfl⟩) ?_; try simp only [Act.put, List.setIfInBounds_toArray, List.set_cons_zero, List.set_cons_succ])
  first | (refine wpL_calm (o := { dst := some 109, op := Go.Op.slice 9 (Go.Operand.tmp 104) (some (Go.Operand.tmp 106)) (some (Go.Operand.tmp 108)) none, type := 9, pos := "law.go:87", after := #[{ on := 35, ground := Go.Ground.data }, { on := 37, ground := Go.Ground.data }, { on := 39, ground := Go.Ground.data }, { on := 28, ground := Go.Ground.guard }], guard := some (28, true) }) (v := ?_) rfl (Or.inl ⟨by rfl, ?_⟩) ?_; rotate_left; (focus (intro w hSw; (try dsimp only at hSw); go_simp; (try (with_reducible rfl)); done)); try simp only [Act.put, List.setIfInBounds_toArray, List.set_cons_zero, List.set_cons_succ]) | (refine wpL_calm (o := { dst := some 109, op := Go.Op.slice 9 (Go.Operand.tmp 104) (some (Go.Operand.tmp 106)) (some (Go.Operand.tmp 108)) none, type := 9, pos := "law.go:87", after := #[{ on := 35, ground := Go.Ground.data }, { on := 37, ground := Go.Ground.data }, { on := 39, ground := Go.Ground.data }, { on := 28, ground := Go.Ground.guard }], guard := some (28, true) }) (v := undef) rfl (Or.inr ⟨by rfl, rfl⟩) ?_; try simp only [Act.put, List.setIfInBounds_toArray, List.set_cons_zero, List.set_cons_succ])
  first | (refine wpL_calm (o := { dst := some 110, op := Go.Op.binOp Go.BinOp.eql 9 (Go.Operand.tmp 103) (Go.Operand.tmp 109) 9, type := 4, pos := "law.go:87", after := #[{ on := 34, ground := Go.Ground.data }, { on := 40, ground := Go.Ground.data }, { on := 28, ground := Go.Ground.guard }], guard := some (28, true) }) (v := ?_) rfl (Or.inl ⟨by rfl, ?_⟩) ?_; rotate_left; (focus (intro w hSw; (try dsimp only at hSw); go_simp; (try (with_reducible rfl)); done)); try simp only [Act.put, List.setIfInBounds_toArray, List.set_cons_zero, List.set_cons_succ]) | (refine wpL_calm (o := { dst := some 110, op := Go.Op.binOp Go.BinOp.eql 9 (Go.Operand.tmp 103) (Go.Operand.tmp 109) 9, type := 4, pos := "law.go:87", after := #[{ on := 34, ground := Go.Ground.data }, { on := 40, ground := Go.Ground.data }, { on := 28, ground := Go.Ground.guard }], guard := some (28, true) }) (v := undef) rfl (Or.inr ⟨by rfl, rfl⟩) ?_; try simp only [Act.put, List.setIfInBounds_toArray, List.set_cons_zero, List.set_cons_succ])
  (refine wpL_calm (o := { dst := some 111, op := Go.Op.pick (Go.Operand.tmp 97) (Go.Operand.tmp 110) (Go.Operand.const (Go.Value.bool false)), type := 4, pos := "law.go:87", after := #[{ on := 28, ground := Go.Ground.data }, { on := 41, ground := Go.Ground.data }], guard := none }) (v := ?_) rfl (Or.inl ⟨by rfl, ?_⟩) ?_; rotate_left; (focus (intro w hSw; (try dsimp only at hSw); go_simp; (try (with_reducible rfl)); done)); try simp only [Act.put, List.setIfInBounds_toArray, List.set_cons_zero, List.set_cons_succ])
  (refine wpL_calm (o := { dst := some 112, op := Go.Op.move (Go.Operand.tmp 111), type := 4, pos := "law.go:87", after := #[{ on := 42, ground := Go.Ground.data }, { on := 28, ground := Go.Ground.chain }], guard := none }) (v := ?_) rfl (Or.inl ⟨by rfl, ?_⟩) ?_; rotate_left; (focus (intro w hSw; (try dsimp only at hSw); go_simp; (try (with_reducible rfl)); done)); try simp only [Act.put, List.setIfInBounds_toArray, List.set_cons_zero, List.set_cons_succ])
  first | (refine wpL_calm (o := { dst := some 113, op := Go.Op.move (Go.Operand.tmp 9), type := 9, pos := "law.go:87", after := #[{ on := 43, ground := Go.Ground.guard }], guard := some (43, true) }) (v := ?_) rfl (Or.inl ⟨by rfl, ?_⟩) ?_; rotate_left; (focus (intro w hSw; (try dsimp only at hSw); go_simp; (try (with_reducible rfl)); done)); try simp only [Act.put, List.setIfInBounds_toArray, List.set_cons_zero, List.set_cons_succ]) | (refine wpL_calm (o := { dst := some 113, op := Go.Op.move (Go.Operand.tmp 9), type := 9, pos := "law.go:87", after := #[{ on := 43, ground := Go.Ground.guard }], guard := some (43, true) }) (v := undef) rfl (Or.inr ⟨by rfl, rfl⟩) ?_; try simp only [Act.put, List.setIfInBounds_toArray, List.set_cons_zero, List.set_cons_succ])
  first | (refine wpL_calm (o := { dst := some 114, op := Go.Op.call { callee := Go.Callee.builtin Go.Builtin.len, args := #[Go.Operand.tmp 113], argTypes := #[9] }, type := 3, pos := "law.go:87", after := #[{ on := 44, ground := Go.Ground.data }, { on := 43, ground := Go.Ground.guard }], guard := some (43, true) }) (v := ?_) rfl (Or.inl ⟨by rfl, ?_⟩) ?_; rotate_left; (focus (intro w hSw; (try dsimp only at hSw); go_simp; (try (with_reducible rfl)); done)); try simp only [Act.put, List.setIfInBounds_toArray, List.set_cons_zero, List.set_cons_succ]) | (refine wpL_calm (o := { dst := some 114, op := Go.Op.call { callee := Go.Callee.builtin Go.Builtin.len, args := #[Go.Operand.tmp 113], argTypes := #[9] }, type := 3, pos := "law.go:87", after := #[{ on := 44, ground := Go.Ground.data }, { on := 43, ground := Go.Ground.guard }], guard := some (43, true) }) (v := undef) rfl (Or.inr ⟨by rfl, rfl⟩) ?_; try simp only [Act.put, List.setIfInBounds_toArray, List.set_cons_zero, List.set_cons_succ])
  first | (refine wpL_calm (o := { dst := some 115, op := Go.Op.binOp Go.BinOp.eql 3 (Go.Operand.tmp 114) (Go.Operand.const (Go.Value.int Go.IntKind.i64 64)) 3, type := 4, pos := "law.go:87", after := #[{ on := 45, ground := Go.Ground.data }, { on := 43, ground := Go.Ground.guard }], guard := some (43, true) }) (v := ?_) rfl (Or.inl ⟨by rfl, ?_⟩) ?_; rotate_left; (focus (intro w hSw; (try dsimp only at hSw); go_simp; (try (with_reducible rfl)); done)); try simp only [Act.put, List.setIfInBounds_toArray, List.set_cons_zero, List.set_cons_succ]) | (refine wpL_calm (o := { dst := some 115, op := Go.Op.binOp Go.BinOp.eql 3 (Go.Operand.tmp 114) (Go.Operand.const (Go.Value.int Go.IntKind.i64 64)) 3, type := 4, pos := "law.go:87", after := #[{ on := 45, ground := Go.Ground.data }, { on := 43, ground := Go.Ground.guard }], guard := some (43, true) }) (v := undef) rfl (Or.inr ⟨by rfl, rfl⟩) ?_; try simp only [Act.put, List.setIfInBounds_toArray, List.set_cons_zero, List.set_cons_succ])
  (refine wpL_calm (o := { dst := some 116, op := Go.Op.pick (Go.Operand.tmp 112) (Go.Operand.tmp 115) (Go.Operand.const (Go.Value.bool false)), type := 4, pos := "law.go:87", after := #[{ on := 43, ground := Go.Ground.data }, { on := 46, ground := Go.Ground.data }], guard := none }) (v := ?_) rfl (Or.inl ⟨by rfl, ?_⟩) ?_; rotate_left; (focus (intro w hSw; (try dsimp only at hSw); go_simp; (try (with_reducible rfl)); done)); try simp only [Act.put, List.setIfInBounds_toArray, List.set_cons_zero, List.set_cons_succ])
  (refine wpL_calm (o := { dst := some 6, op := Go.Op.assign (Go.Operand.tmp 116), type := 4, pos := "law.go:87", after := #[{ on := 47, ground := Go.Ground.data }, { on := 43, ground := Go.Ground.chain }, { on := 0, ground := Go.Ground.phase }, { on := 1, ground := Go.Ground.phase }, { on := 2, ground := Go.Ground.phase }, { on := 3, ground := Go.Ground.phase }, { on := 4, ground := Go.Ground.phase }, { on := 5, ground := Go.Ground.phase }, { on := 6, ground := Go.Ground.phase }, { on := 7, ground := Go.Ground.phase }, { on := 8, ground := Go.Ground.phase }, { on := 9, ground := Go.Ground.phase }, { on := 10, ground := Go.Ground.phase }, { on := 11, ground := Go.Ground.phase }, { on := 12, ground := Go.Ground.phase }, { on := 13, ground := Go.Ground.phase }, { on := 14, ground := Go.Ground.phase }, { on := 15, ground := Go.Ground.phase }, { on := 16, ground := Go.Ground.phase }, { on := 17, ground := Go.Ground.phase }, { on := 18, ground := Go.Ground.phase }, { on := 19, ground := Go.Ground.phase }, { on := 20, ground := Go.Ground.phase }, { on := 21, ground := Go.Ground.phase }, { on := 22, ground := Go.Ground.phase }, { on := 23, ground := Go.Ground.phase }, { on := 24, ground := Go.Ground.phase }, { on := 25, ground := Go.Ground.phase }, { on := 26, ground := Go.Ground.phase }, { on := 27, ground := Go.Ground.phase }, { on := 28, ground := Go.Ground.phase }, { on := 29, ground := Go.Ground.phase }, { on := 30, ground := Go.Ground.phase }, { on := 31, ground := Go.Ground.phase }, { on := 32, ground := Go.Ground.phase }, { on := 33, ground := Go.Ground.phase }, { on := 34, ground := Go.Ground.phase }, { on := 35, ground := Go.Ground.phase }, { on := 36, ground := Go.Ground.phase }, { on := 37, ground := Go.Ground.phase }, { on := 38, ground := Go.Ground.phase }, { on := 39, ground := Go.Ground.phase }, { on := 40, ground := Go.Ground.phase }, { on := 41, ground := Go.Ground.phase }, { on := 42, ground := Go.Ground.phase }, { on := 43, ground := Go.Ground.phase }, { on := 44, ground := Go.Ground.phase }, { on := 45, ground := Go.Ground.phase }, { on := 46, ground := Go.Ground.phase }, { on := 47, ground := Go.Ground.phase }], guard := none }) (v := ?_) rfl (Or.inl ⟨by rfl, ?_⟩) ?_; rotate_left; (focus (intro w hSw; (try dsimp only at hSw); go_simp; (try (with_reducible rfl)); done)); try simp only [Act.put, List.setIfInBounds_toArray, List.set_cons_zero, List.set_cons_succ])
  refine wpL_nil ?_
  refine NoPanic.normal ?_
  go_wp2_with fail
  go_ret
  exact ⟨rfl, by rw [HA.out]; exact B7⟩
section
variable {H : Type} {enc : TypeId × Value → H}
theorem nodeSplits_walk (s : ByteArray) (side : Int) {r : Reach} {b0 : Nat} (v : Value) (d : DataW H) (p : List MemPlace) (w : World) (hs : s.size ≤ 140737488351232) (hw : (Lit.int .i64 side).wf = true) (hok : Value.okWide Tryd.prog w r b0 33 v) (h : DataW.Trod enc Tryd.prog w 0 (fun _ => true) true 33 v d p) (hG : Gl w) :
    Calls Tryd.prog 5 #[.string s, .int .i64 side, v] w fun e w' => e = .returned (.bool true) ∧ Below w.heap.size w w' := by
  obtain ⟨dl, hd, rfl⟩ := open_dig hok h
  by_cases h64 : s.size = 64
  · by_cases h0 : side = 0
    · subst h0
      have hl : s.data.toList.length = 64 := by rw [← Lib.size_eq]; exact h64
      have := nodeSplits_0 (s.data.toList.take 32) (s.data.toList.drop 32) dl (by simp [hl]) (by simp [hl]) hd w hG
      rwa [List.take_append_drop, ← sB_of] at this
    · by_cases h1 : side = 1
      · subst h1
        have hl : s.data.toList.length = 64 := by rw [← Lib.size_eq]; exact h64
        have := nodeSplits_1 (s.data.toList.take 32) (s.data.toList.drop 32) dl (by simp [hl]) (by simp [hl]) hd w hG
        rwa [List.take_append_drop, ← sB_of] at this
      · by_cases hn : side < 0
        · exact nodeSplits_nor1 s side dl w hG (Lib.hid hd) h64 h0 h1 hn
        · exact nodeSplits_nor2 s side dl w hG (Lib.hid hd) h64 h0 h1 (by omega)
  · exact nodeSplits_nof s side dl w hG (Lib.hid hd) h64
end
end Go.Proofs.YtaopmiocompibaaDoor
