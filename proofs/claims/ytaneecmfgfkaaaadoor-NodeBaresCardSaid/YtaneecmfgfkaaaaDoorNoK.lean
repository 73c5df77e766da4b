/- The law NodeSums (made by gennoj.py). -/
import Derived.Test.YtaneecmfgfkaaaaDoorNoJ
namespace Go.Proofs.YtaneecmfgfkaaaaDoor
open Go.RowKit Go.Deep Go.Maps
set_option linter.unusedVariables false
set_option linter.unusedSimpArgs false
theorem wpList_load_arr_g {P : Program} {ops : Array Oper} {rest : List Oper} {o : Oper} {a : Act} {w : World} {Q : Exit → Act → World → Prop} (hw : Region.wanted o (yielded ops a.tmps) = true) (ty : TypeId) (x : Operand) (ho : o.op = .load ty x)
    (g : Nat) (hx : a.eval x = .pointer (some ⟨g, 0, none⟩)) (t : TypeId) (cs : Array Value) (fr : Nat × Nat) (d : TypeDesc) (hg : w.heap[g]? = some (.cells cs t fr))
    (hu : P.underlying ty = some d) (hd : (match d with | .struct _ | .array _ _ => true | _ => false) = true) (hi : (P.info? ty).map (·.size) = some cs.size)
    (h : wpList P ops Q rest (a.put o.dst (.agg cs)) w) : wpList P ops Q (o :: rest) a w := by
  unfold wpList
  rw [if_pos hw]
  exact .inl (wp_load_row ty x ho g hx t cs fr d hg hu hd hi h)
/-- A block holds an array whole. -/
def LoadedA (P : Program) (ty : TypeId) (w : World) (g : Nat) (cs : Array Value) : Prop := ∃ t fr n e, w.heap[g]? = some (.cells cs t fr) ∧ P.underlying ty = some (.array n e) ∧ (P.info? ty).map (·.size) = some cs.size
theorem wpList_load_arr_i {P : Program} {ops : Array Oper} {rest : List Oper} {o : Oper} {a : Act} {w : World} {Q : Exit → Act → World → Prop} {g : Nat} {cs : Array Value} (ty : TypeId) (x : Operand) (ho : o.op = .load ty x)
    (h2 : Region.wanted o (yielded ops a.tmps) = true ∧ a.eval x = .pointer (some ⟨g, 0, none⟩)) (hL : LoadedA P ty w g cs)
    (h : wpList P ops Q rest (a.put o.dst (.agg cs)) w) : wpList P ops Q (o :: rest) a w := by
  obtain ⟨t, fr, n, e, hg, hu, hi⟩ := hL
  exact wpList_load_arr_g h2.1 ty x ho g h2.2 t cs fr (.array n e) hg hu rfl hi h
theorem loadedA_z {w : World} {g : Nat} (h : w.heap[g]? = some (.cells z32 34 (0, 0))) : LoadedA Tryd.prog 34 w g z32 := ⟨_, _, _, _, h, Tryd.underlying34, by kernel_rfl⟩
theorem eql_z32 (w : World) : (binOp .eql 34 (.agg z32) (.agg z32)).run Tryd.prog w = .ok (.bool true) w := by kernel_rfl
attribute [local irreducible] digA sumL z32
theorem one1 : (⟨#[1]⟩ : ByteArray).size = 1 := rfl
end Go.Proofs.YtaneecmfgfkaaaaDoor
