/- node.Same of two lists of 64 sums (layer 17). -/
import Derived.Test.YtaneecmfgfkaaaaDoorNoX
import Derived.Laws.StructEq
namespace Go.Proofs.YtaneecmfgfkaaaaDoor
open Go.RowKit Go.Deep Go.Maps
set_option linter.unusedVariables false
set_option linter.unusedSimpArgs false
set_option maxRecDepth 100000 in
theorem eqg_dig : Tryd.prog.eqGuardType Tryd.prog.depth 34 = false := by kernel_rfl
set_option maxRecDepth 100000 in
theorem wpList_eql_g {ops : Array Oper} {rest : List Oper} {o : Oper} {a : Act} {w : World} {Q : Exit → Act → World → Prop} {vx vy : Array Value} {b : Bool} (t2 : TypeId) (x y : Operand) (ho : o.op = .binOp .eql 34 x y t2)
    (h2 : Region.wanted o (yielded ops a.tmps) = true ∧ a.eval x = .agg vx ∧ a.eval y = .agg vy) (hb : ∀ w, (binOp .eql 34 (.agg vx) (.agg vy)).run Tryd.prog w = .ok (.bool b) w)
    (h : wpList Tryd.prog ops Q rest (a.put o.dst (.bool b)) w) : wpList Tryd.prog ops Q (o :: rest) a w := by
  unfold wpList
  rw [if_pos h2.1]
  refine .inl ?_
  unfold Oper.wp execOp
  simp only [ho, h2.2.1, h2.2.2, Sem.run_bind, Sem.run_pure, run_eqGuard_agg (P := Tryd.prog) (hm := eqg_dig), Result.andThen_ok, hb]
  exact h
attribute [local irreducible] digA sumL z32 sB bv rootD oneB bareS bareB z64B
set_option maxRecDepth 100000 in
set_option maxHeartbeats 8000000 in
theorem nsame_true (L M : List (List UInt8)) (la lb : Option Addr) (c d : Nat) (w : World) (hG : Gl w) (hL : L.length = 64) (h32 : ∀ x ∈ L, x.length = 32) (hT : DigAt w la L) (hM : M.length = 64) (hM32 : ∀ x ∈ M, x.length = 32) (hU : DigAt w lb M) (hrr : (rootD 6 L == rootD 6 M) = true) : Calls Tryd.prog 31 #[.pointer none, .slice la 64 c, .slice lb 64 d] w fun e w' => e = .returned (.bool true) ∧ Below w.heap.size w w' := by
  have hz := zero_dig
  have HX : Hid (Calls Tryd.prog 24 #[.pointer none, .slice la 64 c] w fun e w' => e = .returned (.tuple #[.agg (digA (rootD 6 L)), .int .i64 0]) ∧ Below w.heap.size w w') := Lib.hid ((root_x w.heap.size none none L la c w hG hG.sf hG.sk (by with_unfolding_all exact Nat.le_refl _) (FewX.none _) hL h32 hT).mono fun e w' ⟨X', q1, _, _, q2, _⟩ => ⟨q1, q2⟩)
  have HY : Hid (∀ wc, Below w.heap.size w wc → Calls Tryd.prog 24 #[.pointer none, .slice lb 64 d] wc fun e w' => e = .returned (.tuple #[.agg (digA (rootD 6 M)), .int .i64 0]) ∧ Below wc.heap.size wc w') := Lib.hid (fun wc hb => (root_x wc.heap.size none none M lb d wc (hG.below hb) (Nat.lt_of_lt_of_le hG.sf hb.size) (Nat.lt_of_lt_of_le hG.sk hb.size) (by with_unfolding_all exact Nat.le_refl _) (FewX.none _) hM hM32 (hU.below hb)).mono fun e w' ⟨X', q1, _, _, q2, _⟩ => ⟨q1, q2⟩)
  have HL1 := Lib.hid (rootD_len L h32 6 hL)
  have HL2 := Lib.hid (rootD_len M hM32 6 hM)
  have z1 : (digA (rootD 6 L)).size = 32 := by with_unfolding_all (rw [digA_size, HL1.out])
  have o1 : (digA (rootD 6 L)).all (·.oneCell') = true := by with_unfolding_all exact digA_one _
  have z2 : (digA (rootD 6 M)).size = 32 := by with_unfolding_all (rw [digA_size, HL2.out])
  have o2 : (digA (rootD 6 M)).all (·.oneCell') = true := by with_unfolding_all exact digA_one _
  have heql := eql_dig2 (rootD 6 L) (rootD 6 M) HL1.out HL2.out
  have HLD1 : Hid (∀ w' g, w'.heap[g]? = some (.cells (digA (rootD 6 L)) 34 (0, 0)) → LoadedA Tryd.prog 34 w' g (digA (rootD 6 L))) := Lib.hid (fun w' g h => loadedA_d HL1.out h)
  have HLD2 : Hid (∀ w' g, w'.heap[g]? = some (.cells (digA (rootD 6 M)) 34 (0, 0)) → LoadedA Tryd.prog 34 w' g (digA (rootD 6 M))) := Lib.hid (fun w' g h => loadedA_d HL2.out h)
  rw [hrr] at heql
  clear hrr
  clear hL h32 hT hM hM32 hU HL1 HL2
  generalize digA (rootD 6 L) = D1 at *
  generalize digA (rootD 6 M) = D2 at *
  go_enter Tryd.func31, Tryd.ntmps31
  go_wp2_with fail
  refine HX.out.mono ?_
  rintro e w1 ⟨rfl, b1⟩
  obtain ⟨w2, HW2, hd2, b2⟩ := stored_dg w1 D1
  go_upto_region 2 with (refine wpList_store_row rfl _ _ _ rfl w1.heap.size D1 rfl rfl 34 _ (heap_alloc_new _ _) (by rw [z1]; kernel_rfl) (by rw [z1, z32_size']) o1 ?_)
  rw [HW2.out]
  clear HW2
  have B2 := b1.trans (b2.mono b1.size)
  clear b1 b2
  generalize w1.heap.size = q1 at *
  go_wp2_with fail
  refine (HY.out w2 B2).mono ?_
  rintro e w3 ⟨rfl, b3⟩
  have B3 := B2.trans (b3.mono B2.size)
  have hd3 := blk_belowN b3 hd2
  clear b3 B2 hd2
  obtain ⟨w4, HW4, hd4, b4⟩ := stored_dg w3 D2
  go_upto_region 5 with (refine wpList_store_row rfl _ _ _ rfl w3.heap.size D2 rfl rfl 34 _ (heap_alloc_new _ _) (by rw [z2]; kernel_rfl) (by rw [z2, z32_size']) o2 ?_)
  rw [HW4.out]
  clear HW4
  have B4 := B3.trans (b4.mono B3.size)
  have l1 := HLD1.out w4 q1 (blk_belowN b4 hd3)
  have l2 := HLD2.out w4 _ hd4
  clear b4 B3 hd3 hd4
  generalize w3.heap.size = q2 at *
  go_wp2_with (first | ((with_reducible refine wpList_load_arr_i (g := q1) (cs := D1) 34 _ rfl ?_ ?_ ?_); exact ⟨rfl, rfl⟩; assumption) | ((with_reducible refine wpList_load_arr_i (g := q2) (cs := D2) 34 _ rfl ?_ ?_ ?_); exact ⟨rfl, rfl⟩; assumption) | ((with_reducible refine wpList_eql_g (vx := D1) (vy := D2) _ _ _ rfl ?_ heql ?_); exact ⟨rfl, rfl, rfl⟩))
  go_ret
  exact ⟨by first | done | rfl, B4⟩
set_option maxRecDepth 100000 in
set_option maxHeartbeats 8000000 in
theorem nsame_false (L M : List (List UInt8)) (la lb : Option Addr) (c d : Nat) (w : World) (hG : Gl w) (hL : L.length = 64) (h32 : ∀ x ∈ L, x.length = 32) (hT : DigAt w la L) (hM : M.length = 64) (hM32 : ∀ x ∈ M, x.length = 32) (hU : DigAt w lb M) (hrr : (rootD 6 L == rootD 6 M) = false) : Calls Tryd.prog 31 #[.pointer none, .slice la 64 c, .slice lb 64 d] w fun e w' => e = .returned (.bool false) ∧ Below w.heap.size w w' := by
  have hz := zero_dig
  have HX : Hid (Calls Tryd.prog 24 #[.pointer none, .slice la 64 c] w fun e w' => e = .returned (.tuple #[.agg (digA (rootD 6 L)), .int .i64 0]) ∧ Below w.heap.size w w') := Lib.hid ((root_x w.heap.size none none L la c w hG hG.sf hG.sk (by with_unfolding_all exact Nat.le_refl _) (FewX.none _) hL h32 hT).mono fun e w' ⟨X', q1, _, _, q2, _⟩ => ⟨q1, q2⟩)
  have HY : Hid (∀ wc, Below w.heap.size w wc → Calls Tryd.prog 24 #[.pointer none, .slice lb 64 d] wc fun e w' => e = .returned (.tuple #[.agg (digA (rootD 6 M)), .int .i64 0]) ∧ Below wc.heap.size wc w') := Lib.hid (fun wc hb => (root_x wc.heap.size none none M lb d wc (hG.below hb) (Nat.lt_of_lt_of_le hG.sf hb.size) (Nat.lt_of_lt_of_le hG.sk hb.size) (by with_unfolding_all exact Nat.le_refl _) (FewX.none _) hM hM32 (hU.below hb)).mono fun e w' ⟨X', q1, _, _, q2, _⟩ => ⟨q1, q2⟩)
  have HL1 := Lib.hid (rootD_len L h32 6 hL)
  have HL2 := Lib.hid (rootD_len M hM32 6 hM)
  have z1 : (digA (rootD 6 L)).size = 32 := by with_unfolding_all (rw [digA_size, HL1.out])
  have o1 : (digA (rootD 6 L)).all (·.oneCell') = true := by with_unfolding_all exact digA_one _
  have z2 : (digA (rootD 6 M)).size = 32 := by with_unfolding_all (rw [digA_size, HL2.out])
  have o2 : (digA (rootD 6 M)).all (·.oneCell') = true := by with_unfolding_all exact digA_one _
  have heql := eql_dig2 (rootD 6 L) (rootD 6 M) HL1.out HL2.out
  have HLD1 : Hid (∀ w' g, w'.heap[g]? = some (.cells (digA (rootD 6 L)) 34 (0, 0)) → LoadedA Tryd.prog 34 w' g (digA (rootD 6 L))) := Lib.hid (fun w' g h => loadedA_d HL1.out h)
  have HLD2 : Hid (∀ w' g, w'.heap[g]? = some (.cells (digA (rootD 6 M)) 34 (0, 0)) → LoadedA Tryd.prog 34 w' g (digA (rootD 6 M))) := Lib.hid (fun w' g h => loadedA_d HL2.out h)
  rw [hrr] at heql
  clear hrr
  clear hL h32 hT hM hM32 hU HL1 HL2
  generalize digA (rootD 6 L) = D1 at *
  generalize digA (rootD 6 M) = D2 at *
  go_enter Tryd.func31, Tryd.ntmps31
  go_wp2_with fail
  refine HX.out.mono ?_
  rintro e w1 ⟨rfl, b1⟩
  obtain ⟨w2, HW2, hd2, b2⟩ := stored_dg w1 D1
  go_upto_region 2 with (refine wpList_store_row rfl _ _ _ rfl w1.heap.size D1 rfl rfl 34 _ (heap_alloc_new _ _) (by rw [z1]; kernel_rfl) (by rw [z1, z32_size']) o1 ?_)
  rw [HW2.out]
  clear HW2
  have B2 := b1.trans (b2.mono b1.size)
  clear b1 b2
  generalize w1.heap.size = q1 at *
  go_wp2_with fail
  refine (HY.out w2 B2).mono ?_
  rintro e w3 ⟨rfl, b3⟩
  have B3 := B2.trans (b3.mono B2.size)
  have hd3 := blk_belowN b3 hd2
  clear b3 B2 hd2
  obtain ⟨w4, HW4, hd4, b4⟩ := stored_dg w3 D2
  go_upto_region 5 with (refine wpList_store_row rfl _ _ _ rfl w3.heap.size D2 rfl rfl 34 _ (heap_alloc_new _ _) (by rw [z2]; kernel_rfl) (by rw [z2, z32_size']) o2 ?_)
  rw [HW4.out]
  clear HW4
  have B4 := B3.trans (b4.mono B3.size)
  have l1 := HLD1.out w4 q1 (blk_belowN b4 hd3)
  have l2 := HLD2.out w4 _ hd4
  clear b4 B3 hd3 hd4
  generalize w3.heap.size = q2 at *
  go_wp2_with (first | ((with_reducible refine wpList_load_arr_i (g := q1) (cs := D1) 34 _ rfl ?_ ?_ ?_); exact ⟨rfl, rfl⟩; assumption) | ((with_reducible refine wpList_load_arr_i (g := q2) (cs := D2) 34 _ rfl ?_ ?_ ?_); exact ⟨rfl, rfl⟩; assumption) | ((with_reducible refine wpList_eql_g (vx := D1) (vy := D2) _ _ _ rfl ?_ heql ?_); exact ⟨rfl, rfl, rfl⟩))
  go_ret
  exact ⟨by first | done | rfl, B4⟩
theorem nsame_yes (L M : List (List UInt8)) (la lb : Option Addr) (c d : Nat) (w : World) (hG : Gl w) (hL : L.length = 64) (h32 : ∀ x ∈ L, x.length = 32) (hT : DigAt w la L) (hM : M.length = 64) (hM32 : ∀ x ∈ M, x.length = 32) (hU : DigAt w lb M) : Calls Tryd.prog 31 #[.pointer none, .slice la 64 c, .slice lb 64 d] w fun e w' => e = .returned (.bool (rootD 6 L == rootD 6 M)) ∧ Below w.heap.size w w' := by
  cases hrr : (rootD 6 L == rootD 6 M) with
  | true => exact nsame_true L M la lb c d w hG hL h32 hT hM hM32 hU hrr
  | false => exact nsame_false L M la lb c d w hG hL h32 hT hM hM32 hU hrr
end Go.Proofs.YtaneecmfgfkaaaaDoor
