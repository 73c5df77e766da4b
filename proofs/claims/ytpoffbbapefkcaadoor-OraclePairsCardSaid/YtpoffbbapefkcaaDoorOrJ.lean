/- The law OracleNone. -/
import Derived.Test.YtpoffbbapefkcaaDoorOrI
namespace Go.Proofs.YtpoffbbapefkcaaDoor
open Go.RowKit Go.Deep Go.Maps
set_option linter.unusedVariables false
set_option linter.unusedSimpArgs false
theorem wpList_load_arr_g {P : Program} {ops : Array Oper} {rest : List Oper} {o : Oper} {a : Act} {w : World} {Q : Exit → Act → World → Prop} (hw : Region.wanted o (yielded ops a.tmps) = true) (ty : TypeId) (x : Operand) (ho : o.op = .load ty x)
    (g : Nat) (hx : a.eval x = .pointer (some ⟨g, 0, none⟩)) (t : TypeId) (cs : Array Value) (fr : Nat × Nat) (d : TypeDesc) (hg : w.heap[g]? = some (.cells cs t fr))
    (hu : P.underlying ty = some d) (hd : (match d with | .struct _ | .array _ _ => true | _ => false) = true) (hi : (P.info? ty).map (·.size) = some cs.size)
    (h : wpList P ops Q rest (a.put o.dst (.agg cs)) w) : wpList P ops Q (o :: rest) a w := by
  unfold wpList
  rw [if_pos hw]
  exact .inl (wp_load_row ty x ho g hx t cs fr d hg hu hd hi h)
/-- A block holds an array whole. -/
def LoadedA (P : Program) (ty : TypeId) (w : World) (g : Nat) (cs : Array Value) : Prop := ∃ t fr n e, w.heap[g]? = some (.cells cs t fr) ∧ P.underlying ty = some (.array n e) ∧ (P.info? ty).map (·.size) = some cs.size
theorem wpList_load_arr_i {P : Program} {ops : Array Oper} {rest : List Oper} {o : Oper} {a : Act} {w : World} {Q : Exit → Act → World → Prop} {g : Nat} {cs : Array Value} (ty : TypeId) (x : Operand) (ho : o.op = .load ty x)
    (h2 : Region.wanted o (yielded ops a.tmps) = true ∧ a.eval x = .pointer (some ⟨g, 0, none⟩)) (hL : LoadedA P ty w g cs)
    (h : wpList P ops Q rest (a.put o.dst (.agg cs)) w) : wpList P ops Q (o :: rest) a w := by
  obtain ⟨t, fr, n, e, hg, hu, hi⟩ := hL
  exact wpList_load_arr_g h2.1 ty x ho g h2.2 t cs fr (.array n e) hg hu rfl hi h
theorem loadedA_dig {w : World} {g : Nat} (h : w.heap[g]? = some (.cells z32 34 (0, 0))) : LoadedA Tryd.prog 34 w g z32 := ⟨_, _, _, _, h, Tryd.underlying34, by kernel_rfl⟩
theorem emp_cat : (⟨#[]⟩ : ByteArray) ++ ⟨#[]⟩ = ⟨#[]⟩ := rfl
theorem emp_size : (⟨#[]⟩ : ByteArray).size = 0 := rfl
theorem zsize32 : z32.size = 32 := rfl
attribute [local irreducible] digA sumL z32
set_option maxRecDepth 100000 in
set_option maxHeartbeats 4000000 in
theorem oracleNone_walk (s : ByteArray) (i : Int) (w : World) (hi : (Lit.int .i64 i).wf = true) (hs : s.size ≤ 140737488351232) (hG : Gl w) : Calls Tryd.prog 6 #[.string s, .int .i64 i] w fun e w' => e = .returned (.bool true) ∧ Below w.heap.size w w' := by
  by_cases h : s.size ≤ 1000
  · have h' : ¬ (1000 : Int) < (s.size : Int) := by omega
    have hz := zero_dig
    have hb := build_z32
    have hez := eql_z32
    have hec := emp_cat
    have a1 : (9223372036854775807 < (⟨#[]⟩ : ByteArray).size + (⟨#[]⟩ : ByteArray).size) = False := by rw [emp_size]; simp
    have H1 := Lib.hid (fun w hw => orSum_nil s w hw (by omega))
    have H2 := Lib.hid (fun w hw => sum_any s w (by omega) hw)
    have hed := eql_dig (sumL s.data.toList) (sumL_len _)
    have HIN := Lib.hid (fun w => orInput_nil i w)
    have HFO := Lib.hid (fun w => orForget_nil s w)
    generalize digA (sumL s.data.toList) = D at *
    clear hi
    go_enter Tryd.func6, Tryd.ntmps6
    go_wp2_with fail
    refine (HIN.out _).mono ?_
    rintro e w1 ⟨rfl, B1⟩
    obtain ⟨w2, HW2, hd2, b2⟩ := stored_dg w1 z32
    have B2 := B1.trans (b2.mono B1.size)
    have hq : w1.heap.size < w2.heap.size := (Array.getElem?_eq_some_iff.1 hd2).1
    clear b2 B1
    go_upto_region 5 with (refine wpList_store_row rfl _ _ _ rfl w1.heap.size z32 rfl rfl 34 _ (heap_alloc_new _ _) (by rw [zsize32]; kernel_rfl) rfl z32_one ?_)
    rw [HW2.out]
    clear HW2
    generalize w1.heap.size = q at *
    go_wp2_with fail
    refine (orCollide_nil _).mono ?_
    rintro e w2' ⟨rfl, rfl⟩
    have G2 := hG.below B2
    go_wp2_with fail
    refine (awake06 _ G2).mono ?_
    rintro e w3 ⟨rfl, b3⟩
    have B3 := B2.trans (b3.mono B2.size)
    have G3 := hG.below B3
    have hd3 := (b3.block q hq).trans hd2
    have hq3 := Nat.lt_of_lt_of_le hq b3.size
    clear b3 B2 hd2 G2 hq
    go_wp2_with fail
    refine (H1.out _ G3).mono ?_
    rintro e w4 ⟨rfl, b4⟩
    have B4 := B3.trans (b4.mono B3.size)
    have G4 := hG.below B4
    have hd4 := (b4.block q hq3).trans hd3
    have hq4 := Nat.lt_of_lt_of_le hq3 b4.size
    clear b4 B3 hd3 G3 hq3
    go_wp2_with fail
    refine (H2.out _ G4).mono ?_
    rintro e w5 ⟨rfl, b5⟩
    have B5 := B4.trans (b5.mono B4.size)
    have hd5 := (b5.block q hq4).trans hd4
    clear b5 B4 hd4 G4 hq4
    go_wp2_with fail
    refine (orLen_nil _).mono ?_
    rintro e w5' ⟨rfl, rfl⟩
    have hL5 := loadedA_dig hd5
    go_wp2_with ((with_reducible refine wpList_load_arr_i (g := q) (cs := z32) 34 _ rfl ?_ ?_ ?_); exact ⟨rfl, rfl⟩; assumption)
    refine (HFO.out _).mono ?_
    rintro e w6 ⟨rfl, rfl⟩
    go_wp2_with fail
    go_ret
    exact ⟨rfl, B5⟩
  · have h' : (1000 : Int) < (s.size : Int) := by omega
    go_enter Tryd.func6, Tryd.ntmps6
    go_wp2_with fail
    refine (awake06 _ hG).mono ?_
    rintro e w1 ⟨rfl, B1⟩
    go_wp2_with fail
    go_ret
    exact ⟨rfl, B1⟩
end Go.Proofs.YtpoffbbapefkcaaDoor
