/- Contracts (cellaret): node.Root: its row and its texts. -/
import Derived.Test.YtaneecmfgfkaaaaDoorNoM
import Derived.Test.YtaneecmfgfkaaaaDoorOrO
import Derived.Lib.SlBuf
namespace Go.Proofs.YtaneecmfgfkaaaaDoor
open Go.RowKit Go.Deep Go.Maps
set_option linter.unusedVariables false
set_option linter.unusedSimpArgs false
/-- The text of the node i of the level h + 1. -/
def nt (L : List (List UInt8)) (h i : Nat) : List UInt8 := ndT (dg (lv h L) (2 * i)) (dg (lv h L) (2 * i + 1))
/-- What was summed when i nodes of the level h + 1 are done. -/
def txs (L : List (List UInt8)) (h i : Nat) : List (List UInt8) := (List.range h).flatMap (fun q => (List.range (64 / 2 ^ (q + 1))).map (nt L q)) ++ (List.range i).map (nt L h)
theorem txs_snoc (L : List (List UInt8)) (h i : Nat) : txs L h (i + 1) = txs L h i ++ [nt L h i] := by
  unfold txs
  rw [List.range_succ, List.map_append, ← List.append_assoc]
  rfl
theorem txs_up (L : List (List UInt8)) (h : Nat) : txs L h (64 / 2 ^ (h + 1)) = txs L (h + 1) 0 := by
  unfold txs
  rw [List.range_succ, List.flatMap_append]
  simp
theorem txs_zero (L : List (List UInt8)) : txs L 0 0 = [] := rfl
theorem txs_mem (L : List (List UInt8)) (q j : Nat) (hq : q < 6) (hj : j < 64 / 2 ^ (q + 1)) : nt L q j ∈ txs L 6 0 := by
  unfold txs
  refine List.mem_append.2 (Or.inl (List.mem_flatMap.2 ⟨q, List.mem_range.2 hq, List.mem_map.2 ⟨j, List.mem_range.2 hj, rfl⟩⟩))
theorem bv_len (l : List UInt8) : (bv l).length = l.length := by unfold bv; rw [List.length_map]
/-- A row of sums at a block's head. -/
structure RowD (w : World) (g c n : Nat) (f : Nat → List UInt8) : Prop where
  ex : ∃ cur, w.heap[g]? = some (.cells cur 34 (0, 0)) ∧ cur.size = c * 32 ∧ n ≤ c ∧ ∀ i, i < n → ∀ j u, (bv (f i))[j]? = some u → cur[i * 32 + j]? = some u
  l32 : ∀ i, i < n → (f i).length = 32
theorem RowD.lt {w : World} {g c n : Nat} {f : Nat → List UInt8} (h : RowD w g c n f) : g < w.heap.size := by
  obtain ⟨cur, h1, _⟩ := h.ex
  exact (Array.getElem?_eq_some_iff.1 h1).1
theorem RowD.range {w : World} {g c n : Nat} {f : Nat → List UInt8} (h : RowD w g c n f) (i : Nat) (hi : i < n) : w.rangeAt g (i * 32) (bv (f i)) := fun j u hu => by
  obtain ⟨cur, h1, _, _, h4⟩ := h.ex
  rw [cell_of_row w g _ _ _ _ h1]
  exact h4 i hi j u hu
theorem RowD.there {w : World} {g c n : Nat} {f : Nat → List UInt8} (h : RowD w g c n f) (i : Nat) (hi : i < n) : w.there g (i * 32) 32 := fun j hj => by
  obtain ⟨cur, h1, h2, h3, _⟩ := h.ex
  rw [cell_of_row w g _ _ _ _ h1, frozen_of_row w g _ _ _ h1, Array.getElem?_eq_getElem (by omega)]
  exact ⟨rfl, rfl⟩
theorem RowD.kept {w w' : World} {g c n : Nat} {f : Nat → List UInt8} (h : RowD w g c n f) (hk : ∀ o, w.heap[g]? = some o → w'.heap[g]? = some o) : RowD w' g c n f := by
  obtain ⟨cur, h1, h2⟩ := h.ex
  exact ⟨⟨cur, hk _ h1, h2⟩, h.l32⟩
theorem RowD.below {w w' : World} {g c n : Nat} {f : Nat → List UInt8} (h : RowD w g c n f) (hb : Below w.heap.size w w') : RowD w' g c n f := h.kept fun o ho => (hb.block g (Array.getElem?_eq_some_iff.1 ho).1).trans ho
theorem RowD.congr {w : World} {g c n n' : Nat} {f f' : Nat → List UInt8} (h : RowD w g c n f) (hn : n' ≤ n) (hf : ∀ i, i < n' → f' i = f i) : RowD w g c n' f' := by
  obtain ⟨cur, h1, h2, h3, h4⟩ := h.ex
  refine ⟨⟨cur, h1, h2, by omega, fun i hi j u hu => ?_⟩, fun i hi => ?_⟩
  · rw [hf i hi] at hu; exact h4 i (by omega) j u hu
  · rw [hf i hi]; exact h.l32 i (by omega)
theorem RowD.set {w : World} {g c n : Nat} {f : Nat → List UInt8} (h : RowD w g c n f) (i : Nat) (hi : i < n) (d : List UInt8) (hd : d.length = 32) : RowD (w.setCells g (i * 32) (bv d)) g c n (fun k => if k = i then d else f k) := by
  have hth := h.there i hi
  obtain ⟨cur, h1, h2, h3, h4⟩ := h.ex
  obtain ⟨c', q1, q2, q3⟩ := setCells_cells g 34 (bv d) (i * 32) w cur h1
  have hdl : (bv d).length = 32 := (bv_len d).trans hd
  have hr := World.rangeAt_setCells_same w g (i * 32) (bv d) (by rw [hdl]; exact hth)
  refine ⟨⟨c', q1, q2.trans h2, h3, fun k hk j u hu => ?_⟩, fun k hk => ?_⟩
  · by_cases e : k = i
    · subst e
      rw [if_pos rfl] at hu
      have h5 := hr j u hu
      rwa [cell_of_row _ g _ _ _ _ q1] at h5
    · rw [if_neg e] at hu
      have hj : j < 32 := by have := (List.getElem?_eq_some_iff.1 hu).1; rwa [bv_len, h.l32 k hk] at this
      rw [q3 (k * 32 + j) (by rw [hdl]; omega)]
      exact h4 k hk j u hu
  · by_cases e : k = i
    · rw [if_pos e]; exact hd
    · rw [if_neg e]; exact h.l32 k hk
/-- A store into a row of one's own. -/
theorem heap_setCells_ne (w : World) (g o k : Nat) (vs : List Value) (h : k ≠ g) : (w.setCells g o vs).heap[k]? = w.heap[k]? := setCells_block g vs o w k h
theorem KeptX.cells {w w' : World} {X X' : Option OrS} (h : KeptX w w' X X') (g o : Nat) (vs : List Value) (hq : w.heap.size ≤ g) : KeptX w (w'.setCells g o vs) X X' :=
  ⟨fun k ob hk hf => (heap_setCells_ne w' g o k vs (fun e => by have := (Array.getElem?_eq_some_iff.1 hk).1; omega)).trans (h.keep k ob hk hf), h.free, by rw [setCells_size]; exact h.size⟩
theorem OrX.cells {base : Nat} {w : World} {o : Option Addr} {X : Option OrS} (h : OrX base w o X) (g off : Nat) (vs : List Value) (hq : FreeX X g) : OrX base (w.setCells g off vs) o X := by
  match o, X, h with
  | .none, .none, h => exact (by rw [setCells_size]; exact h : base ≤ (w.setCells g off vs).heap.size)
  | some a, some S, h =>
    obtain ⟨h1, h2, h3, h4⟩ := hq S rfl
    have hP := h.2
    exact ⟨h.1, hP.hb, (heap_setCells_ne w g off S.g vs (Ne.symm h1)).trans hP.hg, own_at_block hP.ht (fun k e => heap_setCells_ne w g off k vs (fun e2 => h3 (e2 ▸ e))), own_at_block hP.hs (fun k e => heap_setCells_ne w g off k vs (fun e2 => h4 (e2 ▸ e))), map_at_block hP.hm (heap_setCells_ne w g off S.b vs (Ne.symm h2)), hP.hbb, hP.ix, hP.nd⟩
theorem below_cells {B g : Nat} {a w : World} (h : Below B a w) (hg : B ≤ g) (o : Nat) (vs : List Value) : Below B a (w.setCells g o vs) :=
  Go.Lib.below_setCells g hg vs o h
end Go.Proofs.YtaneecmfgfkaaaaDoor
