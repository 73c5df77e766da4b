/- Input out of range; the law's acts, opened (layer 6). -/
import Derived.Test.YtaneecmfgfkaaaaDoorOkD
import Derived.Laws.StructEq
namespace Go.Proofs.YtaneecmfgfkaaaaDoor
open Go.RowKit Go.Deep Go.Maps Go.ChangeShapes Go.WideShapes
set_option linter.unusedVariables false
set_option linter.unusedSimpArgs false
set_option maxRecDepth 100000 in
theorem eqg_digK : Tryd.prog.eqGuardType Tryd.prog.depth 34 = false := by kernel_rfl
set_option maxRecDepth 100000 in
theorem neq_run_opK {o : Oper} {a : Act} {vx vy : Array Value} {b : Bool} (t2 : TypeId) (x y : Operand) (ho : o.op = .binOp .neq 34 x y t2) (hx : a.eval x = .agg vx) (hy : a.eval y = .agg vy) (hb : ∀ w, (binOp .neq 34 (.agg vx) (.agg vy)).run Tryd.prog w = .ok (.bool b) w) (w : World) :
    (execOp a.eval o).run Tryd.prog w = .ok (.value (.bool b)) w := by
  unfold execOp
  simp only [ho, hx, hy, Sem.run_bind, Sem.run_pure, run_eqGuard_agg (P := Tryd.prog) (hm := eqg_digK), Result.andThen_ok, hb]
set_option maxRecDepth 100000 in
theorem wpList_neq_gK {ops : Array Oper} {rest : List Oper} {o : Oper} {a : Act} {w : World} {Q : Exit → Act → World → Prop} {vx vy : Array Value} {b : Bool} (t2 : TypeId) (x y : Operand) (ho : o.op = .binOp .neq 34 x y t2)
    (h2 : Region.wanted o (yielded ops a.tmps) = true ∧ a.eval x = .agg vx ∧ a.eval y = .agg vy) (hb : ∀ w, (binOp .neq 34 (.agg vx) (.agg vy)).run Tryd.prog w = .ok (.bool b) w)
    (h : wpList Tryd.prog ops Q rest (a.put o.dst (.bool b)) w) : wpList Tryd.prog ops Q (o :: rest) a w := by
  unfold wpList
  rw [if_pos h2.1]
  refine .inl ?_
  unfold Oper.wp
  rw [neq_run_opK t2 x y ho h2.2.1 h2.2.2 hb w]
  exact h
theorem neq_sameK (l : List UInt8) (h : l.length = 32) (w : World) : (binOp .neq 34 (.agg (digA l)) (.agg (digA l))).run Tryd.prog w = .ok (.bool false) w := neq_dig l h w
theorem neq_z32K (w : World) : (binOp .neq 34 (.agg z32) (.agg z32)).run Tryd.prog w = .ok (.bool false) w := by rw [← digA_zz]; exact neq_dig zz rfl w
set_option maxRecDepth 100000 in
set_option maxHeartbeats 2000000 in
theorem orInput_neg (base g : Nat) (l : List (List UInt8)) (tv sv : Value) (b : Nat) (D : DataW Unit) (z : Int) (hz0 : z < 0) (w : World) (hP : OrP base w g l tv sv b D) : Calls Tryd.prog 16 #[.pointer (some ⟨g, 0, none⟩), .int .i64 z] w fun e w' => e = .returned (.tuple #[.string ⟨#[]⟩, .agg z32, .int .i64 3]) ∧ Below w.heap.size w w' := by
  have hz := zero_dig
  have hb := build_z32
  obtain ⟨w1, HW1, hr1, B1⟩ : ∃ w1, Hid (w.alloc (.cells z32 34) = w1) ∧ w1.heap[w.heap.size]? = some (.cells z32 34 (0, 0)) ∧ Below w.heap.size w w1 := ⟨_, Lib.hid rfl, heap_alloc_new _ _, (Below.refl _ _).alloc (Nat.le_refl _) _⟩
  go_enter Tryd.func16, Tryd.ntmps16
  go_upto_region 1 with fail
  rw [HW1.out]
  clear HW1
  go_wp2_with (refine wpList_store_row rfl _ _ _ rfl w.heap.size z32 rfl rfl 34 _ hr1 (by kernel_rfl) rfl z32_one ?_)
  refine bodyPost_ret_by (results_tct rfl _ _ w.heap.size 34 z32 (0, 0) _ rfl (setRow_heap _ _ _ z32 34 (0, 0) hr1) Tryd.underlying34 rfl (by kernel_rfl)) rfl ⟨rfl, ?_⟩
  exact below_setRow B1 (Nat.le_refl _) _
set_option maxRecDepth 100000 in
set_option maxHeartbeats 2000000 in
theorem orInput_big (base g : Nat) (l : List (List UInt8)) (tv sv : Value) (b : Nat) (D : DataW Unit) (z : Int) (hz1 : (l.length : Int) ≤ z) (w : World) (hP : OrP base w g l tv sv b D) : Calls Tryd.prog 16 #[.pointer (some ⟨g, 0, none⟩), .int .i64 z] w fun e w' => e = .returned (.tuple #[.string ⟨#[]⟩, .agg z32, .int .i64 3]) ∧ Below w.heap.size w w' := by
  have hz := zero_dig
  have hb := build_z32
  obtain ⟨w1, HW1, hr1, B1⟩ : ∃ w1, Hid (w.alloc (.cells z32 34) = w1) ∧ w1.heap[w.heap.size]? = some (.cells z32 34 (0, 0)) ∧ Below w.heap.size w w1 := ⟨_, Lib.hid rfl, heap_alloc_new _ _, (Below.refl _ _).alloc (Nat.le_refl _) _⟩
  have P1 := hP.below B1
  obtain ⟨ta, tc, rfl, _, _⟩ := own_sl P1.ht
  have c0 := cell_of_row w1 g 0 _ _ _ P1.hg
  have hz0 : ¬ z < 0 := by omega
  clear P1 hP
  generalize l.length = n at *
  go_enter Tryd.func16, Tryd.ntmps16
  go_upto_region 1 with fail
  rw [HW1.out]
  clear HW1
  go_wp2_with (refine wpList_store_row rfl _ _ _ rfl w.heap.size z32 rfl rfl 34 _ hr1 (by kernel_rfl) rfl z32_one ?_)
  refine bodyPost_ret_by (results_tct rfl _ _ w.heap.size 34 z32 (0, 0) _ rfl (setRow_heap _ _ _ z32 34 (0, 0) hr1) Tryd.underlying34 rfl (by kernel_rfl)) rfl ⟨rfl, ?_⟩
  exact below_setRow B1 (Nat.le_refl _) _
/-- Acts that came in. -/
def ActAt (w : World) (ao : Option Addr) (A : List (ByteArray × Bool)) : Prop := 0 < A.length → ∃ g o, ao = some ⟨g, o, none⟩ ∧ g < w.heap.size ∧ ∀ i (h : i < A.length), w.rangeAt g (o + i * 2) [.string (A[i]).1, .bool (A[i]).2] ∧ (A[i]).1.size ≤ maxLen
section
variable {H : Type} {enc : TypeId × Value → H} {w : World}
theorem act_fields : ∃ f0 f1, Tryd.prog.underlying 27 = some (.struct #[f0, f1]) ∧ (f0.type = 9 ∧ f0.offset = 0) ∧ (f1.type = 4 ∧ f1.offset = 1) := ⟨_, _, Tryd.underlying27, ⟨rfl, rfl⟩, ⟨rfl, rfl⟩⟩
set_option maxRecDepth 100000 in
theorem open_acts {v : Value} {d : DataW H} {p : List MemPlace} (hok : ∃ a len cap, v = .slice a len cap) (h : DataW.Trod enc Tryd.prog w 0 (fun _ => true) true 22 v d p) : ∃ ao len cap, ∃ A : List (ByteArray × Bool), v = .slice ao len cap ∧ len ≤ maxLen ∧ A.length = len ∧ ActAt w ao A := by
  obtain ⟨a0, l0, c0, rfl⟩ := hok
  obtain ⟨fuel, hf⟩ := h
  obtain ⟨f0, f1, hs, ⟨t0, o0⟩, ⟨t1, o1⟩⟩ := act_fields
  rcases open_slice Tryd.underlying22 hf with ⟨hcs, _⟩ | ⟨a, len, cap, m, n, D, Pl, hcs, hb, hl, hm, hmm, hx, hi⟩
  · simp [Value.cells] at hcs
    obtain ⟨rfl, rfl, rfl⟩ := hcs
    exact ⟨_, _, _, [], rfl, Nat.zero_le _, rfl, fun h => absurd h (by simp)⟩
  · simp [Value.cells] at hcs
    obtain ⟨rfl, rfl, rfl⟩ := hcs
    have hC : Tryd.prog.cellsOf 27 = 2 := by kernel_rfl
    have hsx : ∀ i, i < l0 → ∃ x : ByteArray × Bool, (w.cell? (a.add (i * 2)) = some (.string x.1) ∧ w.cell? (a.add (i * 2 + 1)) = some (.bool x.2)) ∧ x.1.size ≤ maxLen := fun i hil => by
      have him : i < m := by rw [hmm]; split <;> omega
      obtain ⟨cs', hc, ht'⟩ := hi i him
      rw [hC] at hc
      obtain ⟨_, hcl, hat⟩ := World.cells?_some hc
      obtain ⟨ys, n', hn', hy, hlen, hyl, hf'⟩ := DataW.trod_struct hs ht'
      have hyl2 : ys.length = 2 := hyl
      have h0 := (hf' 0 f0 rfl).trans (List.getElem?_eq_getElem (by omega))
      have h1 := (hf' 1 f1 rfl).trans (List.getElem?_eq_getElem (by omega))
      obtain ⟨x0, x1, rfl⟩ : ∃ x0 x1, cs' = [x0, x1] := by
        match cs', hcl with
        | [x0, x1], _ => exact ⟨x0, x1, rfl⟩
      rw [t0, o0, show Tryd.prog.cellsOf 9 = 1 from by kernel_rfl] at h0
      rw [t1, o1, show Tryd.prog.cellsOf 4 = 1 from by kernel_rfl] at h1
      obtain ⟨s, e0, _, hsz⟩ := DataW.trod_string Tryd.underlying9 h0
      obtain ⟨z, e1, _⟩ := DataW.trod_bool Tryd.underlying4 h1
      have e0' : x0 = .string s := by simpa using e0
      have e1' : x1 = .bool z := by simpa using e1
      subst e0' e1'
      have q0 := hat 0 (by omega)
      have q1 := hat 1 (by omega)
      rw [Go.Deep.add_add] at q0 q1
      rw [Nat.add_zero] at q0
      exact ⟨(s, z), ⟨q0, q1⟩, hsz⟩
    obtain ⟨A, h1, h2⟩ := list_of_ex l0 (fun i (x : ByteArray × Bool) => (w.cell? (a.add (i * 2)) = some (.string x.1) ∧ w.cell? (a.add (i * 2 + 1)) = some (.bool x.2)) ∧ x.1.size ≤ maxLen) hsx
    refine ⟨some a, l0, c0, A, rfl, by omega, h1, fun h0 => ?_⟩
    have hc00 := (h2 0 h0).1.1
    obtain ⟨b, off, spot⟩ := a
    have hspot : spot = none := by
      have := World.cell?_spot hc00
      simpa [Addr.add] using this
    subst hspot
    refine ⟨b, off, rfl, by simpa [Addr.add] using cell_lt' hc00, fun i hil => ⟨fun j u hu => ?_, (h2 i hil).2⟩⟩
    obtain ⟨⟨q0, q1⟩, _⟩ := h2 i hil
    rw [Addr.add_lit] at q0 q1
    match j, hu with
    | 0, hu =>
      simp at hu
      subst hu
      exact q0
    | 1, hu =>
      simp at hu
      subst hu
      exact q1
    | j + 2, hu => simp at hu
end
end Go.Proofs.YtaneecmfgfkaaaaDoor
