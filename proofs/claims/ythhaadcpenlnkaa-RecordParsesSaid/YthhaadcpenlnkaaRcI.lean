/- Records in memory: a new one, stores into it; results. -/
import Derived.Test.YthhaadcpenlnkaaRcH
import Derived.Test.YthhaadcpenlnkaaCpy
import Derived.Laws.CopyRow
import Derived.Laws.ResultCell
namespace Go.Proofs.Ythhaadcpenlnkaa
open Go.RowKit Go.Deep
set_option linter.unusedVariables false
set_option linter.unusedSimpArgs false
theorem wpList_copy_mid {P : Program} {w : World} {ops : Array Oper} {rest : List Oper} {o : Oper} {a : Act} {Q : Exit → Act → World → Prop} (hgd : o.guard = none) (d x : Operand) (dT sT : TypeId)
    (ho : o.op = .call { callee := .builtin .copy, args := #[d, x], argTypes := #[dT, sT] }) (elem t : TypeId) (hu : P.underlying dT = some (.slice elem)) (hsz : (P.info? elem).map (·.size) = some 1)
    (g off dLen dCap : Nat) (cur : Array Value) (s : ByteArray) (hd : a.eval d = .slice (some ⟨g, off, none⟩) dLen dCap) (hx : a.eval x = .string s) (hg : w.heap[g]? = some (.cells cur t (0, 0))) (hn : s.size ≤ dLen) (hfit : off + s.size ≤ cur.size)
    (new : Array Value) (he : (cur.toList.take off ++ byteCells s ++ cur.toList.drop (off + s.size)).toArray = new) (h : ∀ w', w'.heap[g]? = some (.cells new t (0, 0)) → w.grownBy w' (some g) → wpList P ops Q rest (a.put o.dst (goInt s.size)) w') : wpList P ops Q (o :: rest) a w := by
  subst he
  have h1 : ∀ v ∈ byteCells s, v.oneCell' = true := fun u hu => by
    obtain ⟨_, _, rfl⟩ := List.mem_map.1 hu
    rfl
  have hst := run_storeCells_at P g off t (byteCells s) 0 cur w hg (by rw [byteCells_length]; omega) h1
  have hfc := firstCells_string (P := P) s w
  rw [byteCells_length] at hst
  simp only [Nat.add_zero] at hst
  have hmin : Nat.min s.size dLen = s.size := Nat.min_eq_left hn
  have hrun : (Builtin.copy_ #[dT, sT] o.type #[.slice (some ⟨g, off, none⟩) dLen dCap, .string s]).run P w = .ok (goInt s.size) (w.setRow g (cur.toList.take off ++ byteCells s ++ cur.toList.drop (off + s.size)).toArray) := by
    cases hq : P.info? elem with
    | none => simp [hq] at hsz
    | some i =>
      have hi : i.size = 1 := by simpa [hq] using hsz
      simp only [List.append_assoc] at hst
      simp [Builtin.copy_, run_underlying hu, Builtin.lenOf, sizeOf, typeInfo, hq, hi, hmin, hfc, hst]
  refine wpList_plain hgd fun K hK => ?_
  unfold Oper.wp
  simp only [execOp, ho, resolve, invoke, builtin, Sem.run_bind, Sem.run_pure, Result.andThen_ok, List.map_toArray, List.map_cons, List.map_nil, hd, hx, hrun]
  exact hK _ _ (h _ (setRow_heap w g cur _ t _ hg) ⟨rfl, rfl, rfl, by simp [World.setRow], fun k _ hk => setRow_other w g k _ (fun e => hk (by rw [e]))⟩)
theorem results_ctt {P : Program} {fn : Func} {p u u' : Tmp} {ty : TypeId} (h : fn.results = #[.cell p ty, .tmp u, .tmp u']) (tmps : Array Value) (w : World) (g : Nat) (t : TypeId) (cs : Array Value) (fr : Nat × Nat) (d : TypeDesc)
    (hp : tmps.getD p undef = .pointer (some ⟨g, 0, none⟩)) (hg : w.heap[g]? = some (.cells cs t fr))
    (hu : P.underlying ty = some d) (hd : (match d with | .struct _ | .array _ _ => true | _ => false) = true) (hi : (P.info? ty).map (·.size) = some cs.size) :
    (results fn tmps).run P w = .ok (.tuple #[.agg cs, tmps.getD u undef, tmps.getD u' undef]) w := by
  have hp' : tmps[p]?.getD undef = .pointer (some ⟨g, 0, none⟩) := by simpa using hp
  simp [results, h, hp', asAddr, run_loadVar_row w g t ty cs fr d hg hu hd hi]
def rz0 : Rc := ⟨0, List.replicate 32 0, []⟩
def nilS : Value := .slice none 0 0
theorem zero_rc : ∀ w, (zeroValue 26).run Try.prog w = .ok (.agg (rcA rz0 nilS)) w := fun w => by kernel_rfl
theorem build_rc : ∀ w, (Instr.build 26 #[]).run Try.prog w = .ok (.agg (rcA rz0 nilS)) w := fun w => by kernel_rfl
theorem lit_rc : (#[.int .i64 0, .int .u8 0, .int .u8 0, .int .u8 0, .int .u8 0, .int .u8 0, .int .u8 0, .int .u8 0, .int .u8 0, .int .u8 0, .int .u8 0, .int .u8 0, .int .u8 0, .int .u8 0, .int .u8 0, .int .u8 0, .int .u8 0, .int .u8 0, .int .u8 0, .int .u8 0, .int .u8 0, .int .u8 0, .int .u8 0, .int .u8 0, .int .u8 0, .int .u8 0, .int .u8 0, .int .u8 0, .int .u8 0, .int .u8 0, .int .u8 0, .int .u8 0, .int .u8 0, .slice none 0 0] : Array Value) = rcA rz0 nilS := by kernel_rfl
theorem rcA_ps (a : Int) (l : List UInt8) (p q : List Pt) (v : Value) : rcA ⟨a, l, p⟩ v = rcA ⟨a, l, q⟩ v := rfl
theorem rcA_one (R : Rc) (v : Value) (hv : v.oneCell' = true) : (rcA R v).all (·.oneCell') = true := by
  unfold rcA rootV
  simp only [List.all_toArray, List.all_cons, List.all_append, List.all_nil, Bool.and_true, Bool.and_eq_true, List.all_eq_true, List.mem_map]
  refine ⟨rfl, ?_, hv⟩
  rintro u ⟨i, _, rfl⟩
  rfl
theorem rcA_seq (R : Rc) (v : Value) (a : Int) : (rcA R v).setIfInBounds 0 (.int .i64 a) = rcA ⟨a, R.root, R.ps⟩ v := by simp [rcA]
theorem rcA_set (R : Rc) (v u : Value) (h : R.root.length = 32) : (rcA R v).setIfInBounds 33 u = rcA R u := by
  unfold rcA
  have hl : (rootV R.root).length = 32 := by rw [rootV_len, h]
  simp only [List.setIfInBounds_toArray, List.set_cons_succ]
  rw [List.set_append_right _ _ (by omega), hl]
  rfl
theorem rcA_copy (R : Rc) (v : Value) (s : ByteArray) (h : R.root.length = 32) (hs : s.size = 32) : ((rcA R v).toList.take 1 ++ byteCells s ++ (rcA R v).toList.drop (1 + s.size)).toArray = rcA ⟨R.seq, s.data.toList, R.ps⟩ v := by
  have hl : (rootV R.root).length = 32 := by rw [rootV_len, h]
  unfold rcA
  congr 1
  rw [hs]
  simp only [List.take_succ_cons, List.take_zero, List.drop_succ_cons, Nat.add_comm 1 32]
  rw [List.drop_left' hl]
  unfold byteCells rootV
  simp
theorem RcAt.grown {w w' : World} {g b : Nat} {R : Rc} {v : Value} (h : RcAt w g R v) (hb : w.grownBy w' (some b)) (hne : g ≠ b) : RcAt w' g R v := ⟨(hb.block g h.lt (fun e => hne (by injection e))).trans h.1, h.2⟩
theorem RcAt.grown' {w w' : World} {g : Nat} {o : Option Nat} {R : Rc} {v : Value} (h : RcAt w g R v) (hb : w.grownBy w' o) (hne : some g ≠ o) : RcAt w' g R v := ⟨(hb.block g h.lt hne).trans h.1, h.2⟩
theorem RcAt.setSeq {w : World} {g : Nat} {R : Rc} {v : Value} (h : RcAt w g R v) (a : Int) : RcAt (w.setCell ⟨g, 0, none⟩ (.int .i64 a)) g ⟨a, R.root, R.ps⟩ v := by
  have h2 := heap_setCell_same w g 0 _ _ (.int .i64 a) h.1
  rw [rcA_seq] at h2
  exact ⟨h2, h.2⟩
theorem RcAt.setPs {w : World} {g : Nat} {R : Rc} {v : Value} (h : RcAt w g R v) (u : Value) : RcAt (w.setCell ⟨g, 33, none⟩ u) g R u := by
  have h2 := heap_setCell_same w g 33 _ _ u h.1
  rw [rcA_set R v u h.2] at h2
  exact ⟨h2, h.2⟩
theorem RcAt.other {w : World} {g k : Nat} {R : Rc} {v : Value} (h : RcAt w g R v) (o : Nat) (u : Value) (hne : k ≠ g) : RcAt (w.setCell ⟨k, o, none⟩ u) g R v :=
  ⟨(Below.heap_setCell w ⟨k, o, none⟩ u g (fun e => hne e.symm)).trans h.1, h.2⟩
theorem RcAt.same {w : World} {g : Nat} {R R' : Rc} {v : Value} (h : RcAt w g R v) (h1 : R.seq = R'.seq) (h2 : R.root = R'.root) : RcAt w g R' v := by
  obtain ⟨a, l, p⟩ := R
  obtain ⟨a', l', p'⟩ := R'
  obtain rfl : a = a' := h1
  obtain rfl : l = l' := h2
  exact ⟨by rw [rcA_ps a l p' p]; exact h.1, h.2⟩
theorem RcAt.frozen {w : World} {g : Nat} {R : Rc} {v : Value} (h : RcAt w g R v) (k : Nat) : w.frozen? ⟨g, k, none⟩ = false := Lib.frozen_of_heap h.1 k
attribute [local irreducible] rcA
theorem made_rc (w : World) : ∃ w1, Hid (w.alloc (.cells (rcA rz0 nilS) 26) = w1) ∧ RcAt w1 w.heap.size rz0 nilS ∧ Hid (Below w.heap.size w w1) := box_rc w rz0 nilS (by simp [rz0])
end Go.Proofs.Ythhaadcpenlnkaa
