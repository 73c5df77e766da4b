/- Contracts (cellaret): Hasher.Digest. -/
import Derived.Test.YtndhegdhkoileaaDoorShL
namespace Go.Proofs.YtndhegdhkoileaaDoor
open Go.RowKit Go.Deep
set_option linter.unusedVariables false
set_option linter.unusedSimpArgs false
def rowW (f : Nat → Int) (n : Nat) : List Value := (List.range n).map fun i => .int .u32 (f i)
theorem run_eql_roww {P : Program} {t e : TypeId} {n m : Nat} (f g : Nat → Int) (ht : P.underlying t = some (.array n e)) (he : P.underlying e = some (.int .u32)) (hsz : ∀ w, (sizeOf e).run P w = .ok 1 w) (hm : n = m) (w : World) :
    (binOp .eql t (.agg (rowW f m).toArray) (.agg (rowW g m).toArray)).run P w = .ok (.bool ((List.range m).all fun i => f i == g i)) w := by
  subst hm
  rw [run_eql_struct, show (10000 : Nat) = 9998 + 2 from rfl, List.range_eq_range', Op.equalIn]
  simp only [Sem.run_bind, run_underlying ht, Result.andThen_ok, hsz, Std.Legacy.Range.forIn_eq_forIn_range', Std.Legacy.Range.size, Nat.sub_zero, Nat.add_sub_cancel, Nat.div_one]
  have hl : ∀ i ∈ List.range' 0 n 1, i < n := fun i hi => by simpa using (List.mem_range'_1.1 hi).2
  generalize List.range' 0 n 1 = l at hl ⊢
  induction l with
  | nil => simp
  | cons i l ih =>
    have hi : i < n := hl i (by simp)
    have px : ∀ h : Nat → Int, (part e (rowW h n).toArray (i * 1)).run P w = .ok (.int .u32 (h i)) w := fun h => by
      simp [part, isAgg, run_underlying he, rowW, hi]
    have pe : (Op.equalIn (9998 + 1) e (.int .u32 (f i)) (.int .u32 (g i))).run P w = .ok (f i == g i) w := run_equalIn_int w 9998 e .u32 .u32 _ _ he
    simp only [List.forIn_cons, Sem.run_bind, px, pe, Result.andThen_ok, List.all_cons]
    cases hb : (f i == g i)
    · simp
    · simp only [Bool.not_true, Bool.false_eq_true, if_false, Sem.run_pure, Result.andThen_ok, Bool.true_and]
      exact ih fun j hj => hl j (by simp [hj])
theorem vL_row (v : V8) : vL v = rowW (fun i => ((v.at i).toNat : Int)) 8 := rfl
theorem size_w : ∀ w, (sizeOf 28).run Tryd.prog w = .ok 1 w := fun w => by kernel_rfl
theorem eql_w8 (v u : V8) : ∃ b, ∀ w, (binOp .eql 29 (.agg (vL v).toArray) (.agg (vL u).toArray)).run Tryd.prog w = .ok (.bool b) w :=
  ⟨_, fun w => by rw [vL_row, vL_row]; exact run_eql_roww _ _ Tryd.underlying29 Tryd.underlying28 size_w rfl w⟩
theorem HashAt.below {base g : Nat} {w w' : World} {t : List UInt8} (h : HashAt base w g t) (hb : Below w.heap.size w w') : HashAt base w' g t := by
  obtain ⟨h1, r, h2, h3⟩ := h
  refine ⟨h1, r, (hb.block g (Array.getElem?_eq_some_iff.1 h2).1).trans h2, h3.1, ?_⟩
  rcases h3.2 with h | ⟨g2, cap, cur, rfl, q1, q2, q3⟩
  · exact Or.inl h
  · exact Or.inr ⟨g2, cap, cur, rfl, q1, (hb.block g2 (Array.getElem?_eq_some_iff.1 q2).1).trans q2, q3⟩
theorem own_app {w : World} {base n m : Nat} {v : Value} {R T : List UInt8} (hn : R.length = n) (hm : T.length = m) (h : w.ownsRow base 5 1 v (n + m) (bv R ++ bv T)) : w.ownsRow base 5 1 v (R ++ T).length (bv (R ++ T)) := by
  rw [List.length_append, hn, hm]
  unfold bv at h ⊢
  rw [List.map_append]
  exact h
theorem tail_bytes {w : World} {g n : Nat} (h : w.rowIs g 5 (tlen n) (fun j => .int .u8 ((tb n 8 j).toNat : Int))) : BytesAt w (some ⟨g, 0, none⟩) (tailL n) := fun h0 => ⟨g, 0, rfl, h.lt, fun j u hu => by
  rw [← tb_all] at hu
  unfold bv at hu
  have hj : j < tlen n := by have := (List.getElem?_eq_some_iff.1 hu).1; simpa using this
  rw [Nat.zero_add, h.cell hj]
  rw [List.getElem?_map, List.getElem?_map, List.getElem?_range hj] at hu
  exact hu⟩
theorem tail_len (n : Nat) : (tailL n).length = tlen n := by rw [← tb_all]; simp
/-- What a digest's region reads. -/
structure Rd (g n : Nat) (V : V8) (r : Value) (w : World) : Prop where
  hg : w.heap[g]? = some (.cells (hcells V r n) 60 (0, 0))
  f : w.rangeAt 0 0 (vL v0)
  c8 : w.cell? ⟨g, 8, none⟩ = some r
  c9 : w.cell? ⟨g, 9, none⟩ = some (.int .i64 (n : Int))
theorem Rd.of {g n : Nat} {V : V8} {r : Value} {w : World} (hg : w.heap[g]? = some (.cells (hcells V r n) 60 (0, 0))) (f : w.rangeAt 0 0 (vL v0)) : Rd g n V r w := ⟨hg, f, cell_of_row w g 8 _ _ _ hg, cell_of_row w g 9 _ _ _ hg⟩
end Go.Proofs.YtndhegdhkoileaaDoor
