/- Contracts (cellaret): sha.worker and what it makes. -/
import Derived.Test.YtaneecmfgfkaaaaDoorShC
import Derived.Laws.Rows
import Derived.Laws.CopyRow
import Derived.Deep.CutRange
namespace Go.Proofs.YtaneecmfgfkaaaaDoor
open Go.RowKit Go.Deep
set_option linter.unusedVariables false
set_option linter.unusedSimpArgs false
/-- What is left of a world but two blocks. -/
structure But2 (w w' : World) (a b : Nat) : Prop where
  os : w'.os = w.os
  tape : w'.tape = w.tape
  output : w'.output = w.output
  size : w.heap.size ≤ w'.heap.size
  block : ∀ k, k < w.heap.size → k ≠ a → k ≠ b → w'.heap[k]? = w.heap[k]?
theorem But2.refl (w : World) (a b : Nat) : But2 w w a b := ⟨rfl, rfl, rfl, Nat.le_refl _, fun _ _ _ _ => rfl⟩
theorem But2.trans {w w' w'' : World} {a b : Nat} (h : But2 w w' a b) (k : But2 w' w'' a b) : But2 w w'' a b :=
  ⟨k.os.trans h.os, k.tape.trans h.tape, k.output.trans h.output, Nat.le_trans h.size k.size, fun i hi h1 h2 => (k.block i (Nat.lt_of_lt_of_le hi h.size) h1 h2).trans (h.block i hi h1 h2)⟩
theorem But2.ofGrown {w w' : World} {a b : Nat} (h : w.grownBy w' (some b)) : But2 w w' a b := ⟨h.os, h.tape, h.output, h.size, fun i hi _ h2 => h.block i hi (fun e => h2 (by cases e; rfl))⟩
theorem But2.ofBelow {w w' : World} {a b : Nat} (h : Below w.heap.size w w') : But2 w w' a b := ⟨h.os, h.tape, h.output, h.size, fun i hi _ _ => h.block i hi⟩
theorem But2.drew {w w' : World} {a b : Nat} (h : But2 w w' a b) : But2 w w'.drew a b := ⟨h.os, h.tape, h.output, h.size, h.block⟩
theorem But2.drewN {w w' : World} {a b : Nat} (h : But2 w w' a b) (n : Nat) : But2 w (w'.drewN n) a b := ⟨h.os, h.tape, h.output, h.size, h.block⟩
theorem But2.cell {w w' : World} {a b : Nat} (h : But2 w w' a b) {p : Addr} {v : Value} (hc : w.cell? p = some v) (hp : p.block < w.heap.size) (h1 : p.block ≠ a) (h2 : p.block ≠ b) : w'.cell? p = some v := (World.cell?_of_block (h.block p.block hp h1 h2)).trans hc
theorem But2.range {w w' : World} {a b g o : Nat} {cs : List Value} (h : But2 w w' a b) (hc : w.rangeAt g o cs) (hp : g < w.heap.size) (h1 : g ≠ a) (h2 : g ≠ b) : w'.rangeAt g o cs := fun j v hv => (World.cell?_of_block (a := ⟨g, o + j, none⟩) (h.block g hp h1 h2)).trans (hc j v hv)
theorem But2.setCells {w : World} {a b : Nat} : ∀ (cs : List Value) (o : Nat) (w' : World), But2 w w' a b → But2 w (w'.setCells a o cs) a b
  | [], _, _, h => h
  | v :: r, o, w', h => But2.setCells r (o + 1) _ ⟨h.os, h.tape, h.output, Nat.le_trans h.size (by simp [World.setCell]), fun i hi h1 h2 => (Below.heap_setCell w' _ v i h1).trans (h.block i hi h1 h2)⟩
/-- Block g is as it was but for eight cells from o on. -/
def K8 (w w' : World) (g o : Nat) : Prop := ∀ (c : Array Value) (T : TypeId), w.heap[g]? = some (.cells c T (0, 0)) → ∃ c', w'.heap[g]? = some (.cells c' T (0, 0)) ∧ c'.size = c.size ∧ ∀ j, (j < o ∨ o + 8 ≤ j) → c'[j]? = c[j]?
theorem K8.ofSame {w w' : World} {g o : Nat} (h : w'.heap[g]? = w.heap[g]?) : K8 w w' g o := fun c _ hc => ⟨c, h.trans hc, rfl, fun _ _ => rfl⟩
theorem K8.trans {w w' w'' : World} {g o : Nat} (h : K8 w w' g o) (k : K8 w' w'' g o) : K8 w w'' g o := fun c T hc => by
  obtain ⟨c1, h1, h2, h3⟩ := h c T hc
  obtain ⟨c2, k1, k2, k3⟩ := k c1 T h1
  exact ⟨c2, k1, k2.trans h2, fun j hj => (k3 j hj).trans (h3 j hj)⟩
theorem setCells_cells (g : Nat) (T : TypeId) : ∀ (vs : List Value) (o : Nat) (w : World) (c : Array Value), w.heap[g]? = some (.cells c T (0, 0)) → ∃ c', (w.setCells g o vs).heap[g]? = some (.cells c' T (0, 0)) ∧ c'.size = c.size ∧ ∀ j, (j < o ∨ o + vs.length ≤ j) → c'[j]? = c[j]?
  | [], _, _, c, h => ⟨c, h, rfl, fun _ _ => rfl⟩
  | v :: r, o, w, c, h => by
    obtain ⟨c', h1, h2, h3⟩ := setCells_cells g T r (o + 1) (w.setCell ⟨g, o, none⟩ v) _ (heap_setCell_same w g o c T v h)
    refine ⟨c', h1, by rw [h2, Array.size_setIfInBounds], fun j hj => ?_⟩
    rw [List.length_cons] at hj
    rw [h3 j (by omega), Array.getElem?_setIfInBounds, if_neg (by omega)]
theorem K8.set {w : World} {g o : Nat} (vs : List Value) (h : vs.length = 8) : K8 w (w.setCells g o vs) g o := fun c T hc => by
  obtain ⟨c', h1, h2, h3⟩ := setCells_cells g T vs o w c hc
  exact ⟨c', h1, h2, fun j hj => h3 j (by omega)⟩
/-- Eight words in memory. -/
def vL (v : V8) : List Value := [wv v.a, wv v.b, wv v.c, wv v.d, wv v.e, wv v.f, wv v.g, wv v.h]
structure WordsAt (w : World) (g o : Nat) (v : V8) : Prop where
  r : w.rangeAt g o (vL v)
  t : w.there g o 8
  lt : g < w.heap.size
/-- The constants, as their variable holds them. -/
def kL : List Value := klist.map wv
def zero64 : Array Value := (List.replicate 64 (.int .u32 0)).toArray
theorem zero_w64 : ∀ w, (zeroValue 106).run Tryd.prog w = .ok (.agg zero64) w := fun w => by kernel_rfl
theorem zero_w8 : ∀ w, (zeroValue 73).run Tryd.prog w = .ok (.agg #[.int .u32 0, .int .u32 0, .int .u32 0, .int .u32 0, .int .u32 0, .int .u32 0, .int .u32 0, .int .u32 0]) w := fun w => by kernel_rfl
set_option maxRecDepth 100000 in
set_option maxHeartbeats 1000000 in
theorem worker_any (gh oh : Nat) (w : World) : Calls Tryd.prog 48 #[.pointer (some ⟨gh, oh, none⟩)] w fun e w' => e = .returned (.func (.func 57) #[] #[.pointer (some ⟨w.heap.size + 1, 0, none⟩), .pointer (some ⟨w.heap.size, 0, none⟩)]) ∧ (w.alloc (.cells #[.pointer (some ⟨gh, oh, none⟩)] 75)).alloc (.cells zero64 106) = w' := by
  have hz := zero_w64
  go_enter Tryd.func48, Tryd.ntmps48
  go_wp2
  go_ret
  exact ⟨rfl, rfl⟩
theorem index_k (i : Nat) (hi : i < 64) (w : World) : (Instr.index 106 (.agg kL.toArray) (.int .i64 (i : Int))).run Tryd.prog w = .ok (.int .u32 ((kc i).toNat : Int)) w := by
  have h1 : kL[i]? = some (wv (kc i)) := by
    unfold kL kc
    have : i < klist.length := hi
    rw [List.getElem?_map, List.getElem?_eq_getElem this, List.getD_eq_getElem?_getD, List.getElem?_eq_getElem this]
    rfl
  have hl : kL.length = 64 := rfl
  have px : ∀ w, (part 72 kL.toArray (i * 1)).run Tryd.prog w = .ok (.int .u32 ((kc i).toNat : Int)) w := fun w => by
    simp [part, isAgg, run_underlying Tryd.underlying72, h1]
  have h2 : (0 : Int) ≤ (i : Int) ∧ (i : Int) < ((64 : Nat) : Int) := ⟨by omega, by omega⟩
  have hsz : ∀ w, (sizeOf 72).run Tryd.prog w = .ok 1 w := fun w => by kernel_rfl
  unfold Instr.index
  simp only [asIntOf, Sem.run_bind, Sem.run_pure, Result.andThen_ok, run_underlying Tryd.underlying106, if_pos h2, hsz, Int.toNat_natCast, px]
end Go.Proofs.YtaneecmfgfkaaaaDoor
