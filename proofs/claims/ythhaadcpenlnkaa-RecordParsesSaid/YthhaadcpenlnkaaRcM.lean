/- Records compared: Puts, roots, slices.Equal, record.Same. -/
import Derived.Test.YthhaadcpenlnkaaRcL
namespace Go.Proofs.Ythhaadcpenlnkaa
open Go.RowKit Go.Deep
set_option linter.unusedVariables false
set_option linter.unusedSimpArgs false
def rowB8 (f : Nat → Int) (n : Nat) : List Value := (List.range n).map fun i => .int .u8 (f i)
theorem run_eql_rowb {P : Program} {t e : TypeId} {n m : Nat} (f g : Nat → Int) (ht : P.underlying t = some (.array n e)) (he : P.underlying e = some (.int .u8)) (hsz : ∀ w, (sizeOf e).run P w = .ok 1 w) (hm : n = m) (w : World) :
    (binOp .eql t (.agg (rowB8 f m).toArray) (.agg (rowB8 g m).toArray)).run P w = .ok (.bool ((List.range m).all fun i => f i == g i)) w := by
  subst hm
  rw [run_eql_struct, show (10000 : Nat) = 9998 + 2 from rfl, List.range_eq_range', Op.equalIn]
  simp only [Sem.run_bind, run_underlying ht, Result.andThen_ok, hsz, Std.Legacy.Range.forIn_eq_forIn_range', Std.Legacy.Range.size, Nat.sub_zero, Nat.add_sub_cancel, Nat.div_one]
  have hl : ∀ i ∈ List.range' 0 n 1, i < n := fun i hi => by simpa using (List.mem_range'_1.1 hi).2
  generalize List.range' 0 n 1 = l at hl ⊢
  induction l with
  | nil => simp
  | cons i l ih =>
    have hi : i < n := hl i (by simp)
    have px : ∀ h : Nat → Int, (part e (rowB8 h n).toArray (i * 1)).run P w = .ok (.int .u8 (h i)) w := fun h => by
      simp [part, isAgg, run_underlying he, rowB8, hi]
    have pe : (Op.equalIn (9998 + 1) e (.int .u8 (f i)) (.int .u8 (g i))).run P w = .ok (f i == g i) w := run_equalIn_int w 9998 e .u8 .u8 _ _ he
    simp only [List.forIn_cons, Sem.run_bind, px, pe, Result.andThen_ok, List.all_cons]
    cases hb : (f i == g i)
    · simp
    · simp only [Bool.not_true, Bool.false_eq_true, if_false, Sem.run_pure, Result.andThen_ok, Bool.true_and]
      exact ih fun j hj => hl j (by simp [hj])
theorem rootV_row (l : List UInt8) : rootV l = rowB8 (fun i => (((l[i]?.getD 0).toNat : Nat) : Int)) l.length := by
  unfold rootV rowB8
  apply List.ext_getElem?
  intro i
  by_cases h : i < l.length
  · rw [List.getElem?_map, List.getElem?_map, List.getElem?_range h, List.getElem?_eq_getElem h]
    simp only [Option.map_some, List.getElem?_eq_getElem h]
    rfl
  · rw [List.getElem?_eq_none (by simpa using h), List.getElem?_eq_none (by simpa using h)]
theorem size_b8 : ∀ w, (sizeOf 5).run Try.prog w = .ok 1 w := fun w => by kernel_rfl
theorem eql_root (x y : List UInt8) (hx : x.length = 32) (hy : y.length = 32) (w : World) : (binOp .eql 23 (.agg (rootV x).toArray) (.agg (rootV y).toArray)).run Try.prog w = .ok (.bool (decide (x = y))) w := by
  have hbx := rootV_row x
  have hby := rootV_row y
  rw [hx] at hbx
  rw [hy] at hby
  rw [hbx, hby, run_eql_rowb _ _ Try.underlying23 Try.underlying5 size_b8 rfl w]
  congr 2
  by_cases e : x = y
  · subst e; simp
  · rw [decide_eq_false e, List.all_eq_false]
    refine Classical.byContradiction fun hc => e ?_
    apply List.ext_getElem?
    intro i
    by_cases hi : i < 32
    · have h1 : (((x[i]?.getD 0).toNat : Nat) : Int) = (((y[i]?.getD 0).toNat : Nat) : Int) := Classical.byContradiction fun hn => hc ⟨i, List.mem_range.2 hi, by simpa using hn⟩
      have h2 : x[i]?.getD 0 = y[i]?.getD 0 := UInt8.toNat_inj.1 (by omega)
      rw [List.getElem?_eq_getElem (by omega), List.getElem?_eq_getElem (by omega)] at h2 ⊢
      simpa using h2
    · rw [List.getElem?_eq_none (by omega), List.getElem?_eq_none (by omega)]
theorem neq_root (x y : List UInt8) (hx : x.length = 32) (hy : y.length = 32) (w : World) : (binOp .neq 23 (.agg (rootV x).toArray) (.agg (rootV y).toArray)).run Try.prog w = .ok (.bool (!decide (x = y))) w := by
  have h := eql_root x y hx hy w
  rw [run_eql_struct] at h
  rw [run_neq_struct]
  cases hq : (Op.equalIn 10000 23 (.agg (rootV x).toArray) (.agg (rootV y).toArray)).run Try.prog w with
  | ok b w' =>
    rw [hq] at h
    simp only [Result.andThen_ok] at h ⊢
    injection h with h1 h2
    injection h1 with h1
    rw [h1, h2]
  | _ => rw [hq] at h; simp [Result.andThen] at h
set_option maxRecDepth 100000 in
theorem eqg_root : Try.prog.eqGuardType Try.prog.depth 23 = false := by kernel_rfl
/-- Equality at the operation, of two arrays or structs of a type without a guard. -/
theorem wpList_bin_g {P : Program} {ops : Array Oper} {rest : List Oper} {o : Oper} {a : Act} {w : World} {Q : Exit → Act → World → Prop} {vx vy : Array Value} {r : Value} (op : BinOp) (ty t2 : TypeId) (x y : Operand) (ho : o.op = .binOp op ty x y t2) (hg : P.eqGuardType P.depth ty = false)
    (h2 : Region.wanted o (yielded ops a.tmps) = true ∧ a.eval x = .agg vx ∧ a.eval y = .agg vy) (hb : (binOp op ty (.agg vx) (.agg vy)).run P w = .ok r w)
    (h : wpList P ops Q rest (a.put o.dst r) w) : wpList P ops Q (o :: rest) a w := by
  unfold wpList
  rw [if_pos h2.1]
  refine .inl ?_
  unfold Oper.wp execOp
  simp only [ho, h2.2.1, h2.2.2, Sem.run_bind, Sem.run_pure, run_eqGuard_agg (P := P) (hm := hg), Result.andThen_ok, hb]
  exact h
theorem run_bin_op {P : Program} {o : Oper} {a : Act} {vx vy : Array Value} {r : Value} {w : World} (op : BinOp) (ty t2 : TypeId) (x y : Operand) (ho : o.op = .binOp op ty x y t2) (hg : P.eqGuardType P.depth ty = false) (hx : a.eval x = .agg vx) (hy : a.eval y = .agg vy) (hb : (binOp op ty (.agg vx) (.agg vy)).run P w = .ok r w) :
    (execOp a.eval o).run P w = .ok (.value r) w := by
  unfold execOp
  simp only [ho, hx, hy, Sem.run_bind, Sem.run_pure, run_eqGuard_agg (P := P) (hm := hg), Result.andThen_ok, hb]
/-- A load from the midst of a row, guarded or not. -/
def LoadedM (P : Program) (ty : TypeId) (w : World) (g off : Nat) (cs : List Value) : Prop := ∃ d, w.rangeAt g off cs ∧ P.underlying ty = some d ∧ d.isRow = true ∧ (P.info? ty).map (·.size) = some cs.length
theorem wpList_load_mid_i {P : Program} {ops : Array Oper} {rest : List Oper} {o : Oper} {a : Act} {w : World} {Q : Exit → Act → World → Prop} {g off : Nat} {cs : List Value} (ty : TypeId) (x : Operand) (ho : o.op = .load ty x)
    (h2 : Region.wanted o (yielded ops a.tmps) = true ∧ a.eval x = .pointer (some ⟨g, off, none⟩)) (hL : LoadedM P ty w g off cs)
    (h : wpList P ops Q rest (a.put o.dst (.agg cs.toArray)) w) : wpList P ops Q (o :: rest) a w := by
  obtain ⟨d, hc, hu, hd, hi⟩ := hL
  unfold wpList
  rw [if_pos h2.1]
  refine .inl ?_
  exact wp_load_mid ty x ho g off h2.2 cs d hc hu hd hi h
theorem LoadedM.run {P : Program} {ty : TypeId} {w : World} {g off : Nat} {cs : List Value} (h : LoadedM P ty w g off cs) : (Instr.loadAt ty (.pointer (some ⟨g, off, none⟩))).run P w = .ok (.agg cs.toArray) w := by
  obtain ⟨d, hc, hu, hd, hi⟩ := h
  exact run_loadAt_mid w g off ty cs d hc hu hd hi
theorem LoadedM.op {P : Program} {o : Oper} {a : Act} {ty : TypeId} {w : World} {g off : Nat} {cs : List Value} (h : LoadedM P ty w g off cs) (x : Operand) (ho : o.op = .load ty x) (hx : a.eval x = .pointer (some ⟨g, off, none⟩)) : (execOp a.eval o).run P w = .ok (.value (.agg cs.toArray)) w := by
  unfold execOp
  simp only [ho, hx, Sem.run_bind, h.run, Result.andThen_ok, Sem.run_pure]
theorem loadedM_root {w : World} {g : Nat} {R : Rc} {v : Value} (h : RcAt w g R v) : LoadedM Try.prog 23 w g 1 (rootV R.root) := ⟨_, h.root, Try.underlying23, rfl, by rw [rootV_len, h.2]; kernel_rfl⟩
theorem loadedM_pt {w : World} {g off : Nat} {a : Int} {b : ByteArray} (h0 : w.cell? ⟨g, off, none⟩ = some (.int .i64 a)) (h1 : w.cell? ⟨g, off + 1, none⟩ = some (.string b)) : LoadedM Try.prog 48 w g off [.int .i64 a, .string b] :=
  ⟨_, fun j u hu => by
    rcases j with _ | _ | j
    · simp at hu; subst hu; exact h0
    · simp at hu; subst hu; exact h1
    · simp at hu, Try.underlying48, rfl, by kernel_rfl⟩
theorem fields_pt : (Try.prog.fieldsOf 48).toList.map (fun f => (f.type, f.offset, decide (f.name ≠ "_"))) = [(3, 0, true), (9, 1, true)] := by kernel_rfl
theorem eql_pt (a c : Int) (b d : ByteArray) (w : World) : (binOp .eql 48 (.agg #[.int .i64 a, .string b]) (.agg #[.int .i64 c, .string d])).run Try.prog w = .ok (.bool ((a == c) && (b.toList == d.toList))) w := by
  rw [run_eql_struct, show (10000 : Nat) = 9998 + 2 from rfl, run_equalIn_struct w _ _ _ _ (by kernel_rfl) (by kernel_rfl)]
  have hf := fields_pt
  generalize (Try.prog.fieldsOf 48).toList = fs at hf
  rcases fs with _ | ⟨f0, fs⟩
  · simp at hf
  rcases fs with _ | ⟨f1, fs⟩
  · simp at hf
  rcases fs with _ | ⟨f2, fs⟩
  rotate_left
  · simp at hf
  simp only [List.map_cons, List.map_nil, List.cons.injEq, Prod.mk.injEq, decide_eq_true_eq, and_true] at hf
  obtain ⟨⟨t0, o0, n0⟩, t1, o1, n1⟩ := hf
  have p0 : ∀ (z : Int) (s : ByteArray), (part f0.type #[.int .i64 z, .string s] f0.offset).run Try.prog w = .ok (.int .i64 z) w := fun z s => by
    rw [t0, o0]; simp [part, isAgg, run_underlying Try.underlying3]
  have p1 : ∀ (z : Int) (s : ByteArray), (part f1.type #[.int .i64 z, .string s] f1.offset).run Try.prog w = .ok (.string s) w := fun z s => by
    rw [t1, o1]; simp [part, isAgg, run_underlying Try.underlying9]
  have e0 : (Op.equalIn (9998 + 1) f0.type (.int .i64 a) (.int .i64 c)).run Try.prog w = .ok (a == c) w := by rw [t0]; exact run_equalIn_int w 9998 _ .i64 .i64 _ _ Try.underlying3
  have e1 : (Op.equalIn (9998 + 1) f1.type (.string b) (.string d)).run Try.prog w = .ok (b.toList == d.toList) w := by rw [t1]; exact run_equalIn_string w 9998 _ _ _ Try.underlying9
  simp only [Op.eqFields, if_pos n0, if_pos n1, Sem.run_bind, p0, p1, e0, e1, Result.andThen_ok]
  cases (a == c) with
  | false => simp
  | true =>
    simp only [Bool.not_true, Bool.false_eq_true, if_false, Sem.run_bind, p1, e1, Result.andThen_ok, Bool.true_and]
    cases (b.toList == d.toList) <;> simp
theorem neq_pt (a c : Int) (b d : ByteArray) (w : World) : (binOp .neq 48 (.agg #[.int .i64 a, .string b]) (.agg #[.int .i64 c, .string d])).run Try.prog w = .ok (.bool (!((a == c) && (b.toList == d.toList)))) w := by
  have h := eql_pt a c b d w
  rw [run_eql_struct] at h
  rw [run_neq_struct]
  cases hq : (Op.equalIn 10000 48 (.agg #[.int .i64 a, .string b]) (.agg #[.int .i64 c, .string d])).run Try.prog w with
  | ok b w' =>
    rw [hq] at h
    simp only [Result.andThen_ok] at h ⊢
    injection h with h1 h2
    injection h1 with h1
    rw [h1, h2]
  | _ => rw [hq] at h; simp [Result.andThen] at h
theorem eqg_pt : Try.prog.eqGuardType Try.prog.depth 48 = false := by kernel_rfl
theorem pt_eq {p q : List Pt} {k : Nat} (h1 : k < p.length) (h2 : k < q.length) : ((pAt p k == pAt q k) && ((pB p k).toList == (pB q k).toList)) = decide (p[k] = q[k]) := by
  have a1 : pAt p k = (p[k]).1 := by unfold pAt; rw [List.getElem?_eq_getElem h1]; rfl
  have a2 : pAt q k = (q[k]).1 := by unfold pAt; rw [List.getElem?_eq_getElem h2]; rfl
  have b1 : pB p k = (p[k]).2 := by unfold pB; rw [List.getElem?_eq_getElem h1]; rfl
  have b2 : pB q k = (q[k]).2 := by unfold pB; rw [List.getElem?_eq_getElem h2]; rfl
  rw [a1, a2, b1, b2]
  generalize p[k] = x
  generalize q[k] = y
  obtain ⟨a, s⟩ := x
  obtain ⟨c, t⟩ := y
  simp only [Prod.mk.injEq]
  by_cases e : a = c
  · subst e
    by_cases f : s = t
    · subst f; simp
    · have : (s.toList == t.toList) = false := by
        cases h : (s.toList == t.toList)
        · rfl
        · exact absurd (ba_eq _ _ h) f
      rw [this]; simp [f]
  · have : (a == c) = false := by simpa using e
    rw [this]; simp [e]
theorem pt_ne_at (L M : List Pt) (k : Nat) (h1 : k < L.length) (h2 : k < M.length) (h : L[k] ≠ M[k]) : L ≠ M := fun e => by subst e; exact h rfl
end Go.Proofs.Ythhaadcpenlnkaa
