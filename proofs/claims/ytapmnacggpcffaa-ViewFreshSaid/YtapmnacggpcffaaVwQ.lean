/- Package view: Count of what is no image; what is seen, compared. -/
import Derived.Test.YtapmnacggpcffaaVwP
namespace Go.Proofs.Ytapmnacggpcffaa
open Go.RowKit Go.Deep
set_option linter.unusedVariables false
set_option linter.unusedSimpArgs false
def rowL (f : Nat → Int) (n : Nat) : List Value := (List.range n).map fun i => .int .i64 (f i)
theorem run_eql_row {P : Program} {t e : TypeId} {n m : Nat} (f g : Nat → Int) (ht : P.underlying t = some (.array n e)) (he : P.underlying e = some (.int .i64)) (hsz : ∀ w, (sizeOf e).run P w = .ok 1 w) (hm : n = m) (w : World) :
    (binOp .eql t (.agg (rowL f m).toArray) (.agg (rowL g m).toArray)).run P w = .ok (.bool ((List.range m).all fun i => f i == g i)) w := by
  subst hm
  rw [run_eql_struct, show (10000 : Nat) = 9998 + 2 from rfl, List.range_eq_range', Op.equalIn]
  simp only [Sem.run_bind, run_underlying ht, Result.andThen_ok, hsz, Std.Legacy.Range.forIn_eq_forIn_range', Std.Legacy.Range.size, Nat.sub_zero, Nat.add_sub_cancel, Nat.div_one]
  have hl : ∀ i ∈ List.range' 0 n 1, i < n := fun i hi => by simpa using (List.mem_range'_1.1 hi).2
  generalize List.range' 0 n 1 = l at hl ⊢
  induction l with
  | nil => simp
  | cons i l ih =>
    have hi : i < n := hl i (by simp)
    have px : ∀ h : Nat → Int, (part e (rowL h n).toArray (i * 1)).run P w = .ok (.int .i64 (h i)) w := fun h => by
      simp [part, isAgg, run_underlying he, rowL, hi]
    have pe : (Op.equalIn (9998 + 1) e (.int .i64 (f i)) (.int .i64 (g i))).run P w = .ok (f i == g i) w := run_equalIn_int w 9998 e .i64 .i64 _ _ he
    simp only [List.forIn_cons, Sem.run_bind, px, pe, Result.andThen_ok, List.all_cons]
    cases hb : (f i == g i)
    · simp
    · simp only [Bool.not_true, Bool.false_eq_true, if_false, Sem.run_pure, Result.andThen_ok, Bool.true_and]
      exact ih fun j hj => hl j (by simp [hj])
theorem fields_seen : (Try.prog.fieldsOf 33).toList.map (fun f => (f.type, f.offset, decide (f.name ≠ "_"))) = [(3, 0, true), (3, 1, true), (3, 2, true), (4, 3, true)] := by kernel_rfl
set_option maxRecDepth 100000 in
theorem eql_seenS (a b c : Int) (d : Bool) (w : World) : (binOp .eql 33 (.agg #[.int .i64 a, .int .i64 b, .int .i64 c, .bool d]) (.agg #[.int .i64 a, .int .i64 b, .int .i64 c, .bool d])).run Try.prog w = .ok (.bool true) w := by
  rw [run_eql_struct, show (10000 : Nat) = 9998 + 2 from rfl, run_equalIn_struct w _ _ _ _ (by kernel_rfl) (by kernel_rfl)]
  have hf := fields_seen
  generalize (Try.prog.fieldsOf 33).toList = fs at hf
  rcases fs with _ | ⟨f0, fs⟩
  · simp at hf
  rcases fs with _ | ⟨f1, fs⟩
  · simp at hf
  rcases fs with _ | ⟨f2, fs⟩
  · simp at hf
  rcases fs with _ | ⟨f3, fs⟩
  · simp at hf
  rcases fs with _ | ⟨f4, fs⟩
  rotate_left
  · simp at hf
  simp only [List.map_cons, List.map_nil, List.cons.injEq, Prod.mk.injEq, decide_eq_true_eq, and_true] at hf
  obtain ⟨⟨t0, o0, n0⟩, ⟨t1, o1, n1⟩, ⟨t2, o2, n2⟩, t3, o3, n3⟩ := hf
  have p0 : (part f0.type #[.int .i64 a, .int .i64 b, .int .i64 c, .bool d] f0.offset).run Try.prog w = .ok (.int .i64 a) w := by
    rw [t0, o0]; simp [part, isAgg, run_underlying Try.underlying3]
  have p1 : (part f1.type #[.int .i64 a, .int .i64 b, .int .i64 c, .bool d] f1.offset).run Try.prog w = .ok (.int .i64 b) w := by
    rw [t1, o1]; simp [part, isAgg, run_underlying Try.underlying3]
  have p2 : (part f2.type #[.int .i64 a, .int .i64 b, .int .i64 c, .bool d] f2.offset).run Try.prog w = .ok (.int .i64 c) w := by
    rw [t2, o2]; simp [part, isAgg, run_underlying Try.underlying3]
  have p3 : (part f3.type #[.int .i64 a, .int .i64 b, .int .i64 c, .bool d] f3.offset).run Try.prog w = .ok (.bool d) w := by
    rw [t3, o3]; simp [part, isAgg, run_underlying Try.underlying4]
  have e0 : (Op.equalIn (9998 + 1) f0.type (.int .i64 a) (.int .i64 a)).run Try.prog w = .ok true w := by rw [t0, run_equalIn_int w 9998 _ .i64 .i64 _ _ Try.underlying3]; simp
  have e1 : (Op.equalIn (9998 + 1) f1.type (.int .i64 b) (.int .i64 b)).run Try.prog w = .ok true w := by rw [t1, run_equalIn_int w 9998 _ .i64 .i64 _ _ Try.underlying3]; simp
  have e2 : (Op.equalIn (9998 + 1) f2.type (.int .i64 c) (.int .i64 c)).run Try.prog w = .ok true w := by rw [t2, run_equalIn_int w 9998 _ .i64 .i64 _ _ Try.underlying3]; simp
  have e3 : (Op.equalIn (9998 + 1) f3.type (.bool d) (.bool d)).run Try.prog w = .ok true w := by rw [t3]; cases d <;> kernel_rfl
  simp only [Op.eqFields, if_pos n0, if_pos n1, if_pos n2, if_pos n3, Sem.run_bind, p0, p1, p2, p3, e0, e1, e2, e3, Result.andThen_ok, Bool.not_true, Bool.false_eq_true, if_false, Sem.run_pure]
set_option maxRecDepth 100000 in
theorem neq_seenS (a b c : Int) (d : Bool) (w : World) : (binOp .neq 33 (.agg #[.int .i64 a, .int .i64 b, .int .i64 c, .bool d]) (.agg #[.int .i64 a, .int .i64 b, .int .i64 c, .bool d])).run Try.prog w = .ok (.bool false) w := by
  have h := eql_seenS a b c d w
  rw [run_eql_struct] at h
  rw [run_neq_struct]
  cases hq : (Op.equalIn 10000 33 (.agg #[.int .i64 a, .int .i64 b, .int .i64 c, .bool d]) (.agg #[.int .i64 a, .int .i64 b, .int .i64 c, .bool d])).run Try.prog w with
  | ok b w' =>
    rw [hq] at h
    simp only [Result.andThen_ok] at h ⊢
    injection h with h1 h2
    injection h1 with h1
    rw [h1, h2]; rfl
  | _ => rw [hq] at h; simp [Result.andThen] at h
set_option maxRecDepth 100000 in
set_option maxHeartbeats 8000000 in
theorem count_no (s : ByteArray) (w : World) (hs : s.size ≠ 18432) : Calls Try.prog 8 #[.string s] w fun e w' => e = .returned (.tuple #[.agg #[.int .i64 0, .int .i64 0, .int .i64 0, .int .i64 0, .int .i64 0], .int .i64 6]) ∧ Below w.heap.size w w' := by
  obtain ⟨w1, hw1⟩ : ∃ w1, w.alloc (.cells #[.int .i64 0, .int .i64 0, .int .i64 0, .int .i64 0, .int .i64 0] 28) = w1 := ⟨_, rfl⟩
  have B1 : Below w.heap.size w w1 := by rw [← hw1]; exact (Below.refl _ _).alloc (Nat.le_refl _) _
  have r1 : w1.heap[w.heap.size]? = some (.cells #[.int .i64 0, .int .i64 0, .int .i64 0, .int .i64 0, .int .i64 0] 28 (0, 0)) := by rw [← hw1]; exact heap_alloc_new _ _
  have CL := Lib.hid (look_no s w1 hs)
  obtain ⟨w3, hw3⟩ : ∃ w3, w1.alloc (.cells #[.int .i64 0, .int .i64 0, .int .i64 0, .int .i64 0, .int .i64 0] 28) = w3 := ⟨_, rfl⟩
  have B3 : Below w1.heap.size w1 w3 := by rw [← hw3]; exact (Below.refl _ _).alloc (Nat.le_refl _) _
  have r3 := (B3.block w.heap.size (Array.getElem?_eq_some_iff.1 r1).1).trans r1
  have r4 : w3.heap[w1.heap.size]? = some (.cells #[.int .i64 0, .int .i64 0, .int .i64 0, .int .i64 0, .int .i64 0] 28 (0, 0)) := by rw [← hw3]; exact heap_alloc_new _ _
  have k0 : w3.cell? ⟨w1.heap.size, 0, none⟩ = some (.int .i64 0) := cell_of_row w3 _ 0 _ _ _ r4
  have k1 : w3.cell? ⟨w1.heap.size, 1, none⟩ = some (.int .i64 0) := cell_of_row w3 _ 1 _ _ _ r4
  have k2 : w3.cell? ⟨w1.heap.size, 2, none⟩ = some (.int .i64 0) := cell_of_row w3 _ 2 _ _ _ r4
  have k3 : w3.cell? ⟨w1.heap.size, 3, none⟩ = some (.int .i64 0) := cell_of_row w3 _ 3 _ _ _ r4
  have k4 : w3.cell? ⟨w1.heap.size, 4, none⟩ = some (.int .i64 0) := cell_of_row w3 _ 4 _ _ _ r4
  have HB3 := Lib.hid (B1.trans (B3.mono B1.size))
  have HW1 := Lib.hid hw1
  have HW3 := Lib.hid hw3
  clear hw1 hw3 B1 B3 r1 r4
  go_enter Try.func8, Try.ntmps8
  go_upto_region 1 with fail
  rw [HW1.out]
  go_wp2_with fail
  refine CL.out.mono ?_
  rintro e w' ⟨rfl, rfl⟩
  go_upto_region 3 with fail
  rw [HW3.out]
  clear HW1 HW3 CL
  go_wp2_with fail
  go_loopw [16] (fun s16 wi => s16 = .int .i64 0 ∧ w3 = wi) (fun s16 _ => 0)
  case atStart => exact ⟨rfl, rfl⟩
  case round =>
    obtain ⟨rfl, rfl⟩ := hrel
    go_wp2_with (refine wpList_store_new rfl 28 _ _ rfl w.heap.size #[.int .i64 0, .int .i64 0, .int .i64 0, .int .i64 0, .int .i64 0] rfl rfl 28 _ r3 (size_5 0 0 0 0 0) rfl (one_5 0 0 0 0 0) ?_; intro w4 hrow4 hbel4 hs4)
    refine bodyPost_ret_by (results_ct rfl _ _ w.heap.size 28 #[.int .i64 0, .int .i64 0, .int .i64 0, .int .i64 0, .int .i64 0] (0, 0) _ rfl hrow4 Try.underlying28 rfl (size_5 0 0 0 0 0)) rfl ⟨rfl, HB3.out.trans hbel4⟩
end Go.Proofs.Ytapmnacggpcffaa
