/- Contracts (cellaret): tally's counter. -/
import Derived.Test.YtnbmpackjgffaaaTaA
import Derived.Test.YtnbmpackjgffaaaPhD
import Derived.Test.YtnbmpackjgffaaaPhN
import Derived.Deep.RegionWith
import Derived.Deep.RegionHeld3
import Derived.Laws.Rows
import Derived.Laws.NewBlocks
import Derived.OneCell
import Derived.Below
import Derived.Deep.Fields
import Derived.Deep.Draws
import Derived.Outline
namespace Go.Proofs.Ytnbmpackjgffaaa
open Go.RowKit Go.Deep
set_option linter.unusedVariables false
attribute [local go_sem] unary_negf run_store_complex run_store_float
/-- A tally. -/
structure Tl where
  a : Nat → Int
  e : Nat → Int
  b : Int
  x : Nat
  y : Nat
def upd (f : Nat → Int) (k : Nat) (v : Int) : Nat → Int := fun j => if j = k then v else f j
def tcell (T : Tl) (i : Nat) : Value := if i < 24 then .int .i64 (T.a i) else if i < 56 then .int .i64 (T.e (i - 24)) else if i = 56 then .int .i64 T.b else .complex .f64 T.x T.y
def tcells (T : Tl) : Array Value := ((List.range 58).map (tcell T)).toArray
theorem tcells_size (T : Tl) : (tcells T).size = 58 := by simp [tcells]
theorem tcells_get (T : Tl) (i : Nat) (h : i < 58) : (tcells T)[i]? = some (tcell T i) := by simp [tcells, h]
def TallyAt (w : World) (g : Nat) (T : Tl) : Prop := w.heap[g]? = some (.cells (tcells T) 28 (0, 0))
theorem TallyAt.lt {w : World} {g : Nat} {T : Tl} (h : TallyAt w g T) : g < w.heap.size := (Array.getElem?_eq_some_iff.1 h).1
theorem TallyAt.cell {w : World} {g : Nat} {T : Tl} (h : TallyAt w g T) (i : Nat) (hi : i < 58) : w.cell? ⟨g, i, none⟩ = some (tcell T i) := (cell_of_row w g i _ _ _ h).trans (tcells_get T i hi)
theorem TallyAt.ca {w : World} {g : Nat} {T : Tl} (h : TallyAt w g T) (i : Nat) (hi : i < 24) : w.cell? ⟨g, i, none⟩ = some (.int .i64 (T.a i)) := by rw [h.cell i (by omega)]; unfold tcell; rw [if_pos hi]
theorem TallyAt.ce {w : World} {g : Nat} {T : Tl} (h : TallyAt w g T) (i : Nat) (hi : i < 32) : w.cell? ⟨g, 24 + i, none⟩ = some (.int .i64 (T.e i)) := by
  rw [h.cell (24 + i) (by omega)]; unfold tcell; rw [if_neg (by omega), if_pos (by omega), Nat.add_sub_cancel_left]
theorem TallyAt.cb {w : World} {g : Nat} {T : Tl} (h : TallyAt w g T) : w.cell? ⟨g, 56, none⟩ = some (.int .i64 T.b) := h.cell 56 (by omega)
theorem TallyAt.cz {w : World} {g : Nat} {T : Tl} (h : TallyAt w g T) : w.cell? ⟨g, 57, none⟩ = some (.complex .f64 T.x T.y) := h.cell 57 (by omega)
theorem TallyAt.free {w : World} {g : Nat} {T : Tl} (h : TallyAt w g T) (i : Nat) : w.frozen? ⟨g, i, none⟩ = false := frozen_of_row w g i _ _ h
theorem TallyAt.drew {w : World} {g : Nat} {T : Tl} (h : TallyAt w g T) : TallyAt w.drew g T := h
theorem TallyAt.drewN {w : World} {g : Nat} {T : Tl} (h : TallyAt w g T) (n : Nat) : TallyAt (w.drewN n) g T := h
theorem TallyAt.below {w w' : World} {g B : Nat} {T : Tl} (h : TallyAt w g T) (hb : Below B w w') (hg : g < B) : TallyAt w' g T := (hb.block g hg).trans h
theorem TallyAt.other {w : World} {g : Nat} {T : Tl} (h : TallyAt w g T) (p : Addr) (v : Value) (hp : g ≠ p.block) : TallyAt (w.setCell p v) g T := (heap_setCell_other w p g v hp).trans h
theorem TallyAt.put {w : World} {g : Nat} {T U : Tl} (h : TallyAt w g T) (i : Nat) (v : Value) (hu : ∀ j, j < 58 → tcell U j = if j = i then v else tcell T j) : TallyAt (w.setCell ⟨g, i, none⟩ v) g U := by
  refine (heap_setCell_same w g i _ _ v h).trans ?_
  congr 2
  apply Array.ext
  · simp [tcells]
  · intro j h1 h2
    have hj : j < 58 := by simpa [tcells] using h2
    rw [Array.getElem_setIfInBounds (by simpa [tcells] using hj)]
    simp only [tcells, List.getElem_toArray, List.getElem_map, List.getElem_range]
    rw [hu j hj]
    by_cases e : j = i
    · rw [if_pos e.symm, if_pos e]
    · rw [if_neg (fun h => e h.symm), if_neg e]
theorem TallyAt.puta {w : World} {g : Nat} {T : Tl} (h : TallyAt w g T) (i : Nat) (v : Int) (hi : i < 24) : TallyAt (w.setCell ⟨g, i, none⟩ (.int .i64 v)) g { T with a := upd T.a i v } := h.put i _ fun j hj => by
  unfold tcell upd
  by_cases e : j = i
  · subst e; simp [hi]
  · simp [e]
theorem TallyAt.pute {w : World} {g : Nat} {T : Tl} (h : TallyAt w g T) (i : Nat) (v : Int) (hi : i < 32) : TallyAt (w.setCell ⟨g, 24 + i, none⟩ (.int .i64 v)) g { T with e := upd T.e i v } := h.put (24 + i) _ fun j hj => by
  unfold tcell upd
  by_cases e : j = 24 + i
  · subst e
    have : 24 + i < 56 := by omega
    have h2 : ¬ 24 + i < 24 := by omega
    simp only [if_pos this, if_neg h2, Nat.add_sub_cancel_left, if_true]
  · by_cases h1 : j < 24
    · simp [h1, e]
    · have : ¬ j - 24 = i := by omega
      simp [h1, e, this]
theorem TallyAt.putb {w : World} {g : Nat} {T : Tl} (h : TallyAt w g T) (v : Int) : TallyAt (w.setCell ⟨g, 56, none⟩ (.int .i64 v)) g { T with b := v } := h.put 56 _ fun j hj => by
  unfold tcell
  by_cases e : j = 56
  · subst e; rfl
  · simp [e]
theorem TallyAt.putz {w : World} {g : Nat} {T : Tl} (h : TallyAt w g T) (x y : Nat) : TallyAt (w.setCell ⟨g, 57, none⟩ (.complex .f64 x y)) g { T with x := x, y := y } := h.put 57 _ fun j hj => by
  unfold tcell
  by_cases e : j = 57
  · subst e; rfl
  · by_cases h1 : j < 24
    · simp [h1, e]
    · by_cases h2 : j < 56
      · simp [h1, h2, e]
      · have : j = 56 := by omega
        simp [this]
theorem plus_any (a b c d : Nat) (w : World) : Calls Try.prog 21 #[.complex .f64 a b, .complex .f64 c d] w fun e w' => ∃ r s n, e = .returned (.complex .f64 r s) ∧ FAns (fadd a c) r ∧ FAns (fadd b d) s ∧ w.drewN n = w' := by
  obtain ⟨r, n, hr, h1⟩ := arith_run .add 35 a c w (by simp)
  obtain ⟨s, m, hs, h2⟩ := arith_run .add 35 b d (w.drewN n) (by simp)
  have K1 := Lib.hid hr
  have K2 := Lib.hid hs
  clear hr hs
  go_enter Try.func21, Try.ntmps21
  go_wp2
  go_ret
  exact ⟨r, s, _, rfl, K1.out, K2.out, rfl⟩
/-- A cell of the call's own. -/
def OneAt (w : World) (g : Nat) (t : TypeId) (v : Value) : Prop := w.heap[g]? = some (.cells #[v] t (0, 0))
theorem OneAt.cell {w : World} {g : Nat} {t : TypeId} {v : Value} (h : OneAt w g t v) : w.cell? ⟨g, 0, none⟩ = some v := cell_of_row w g 0 _ _ _ h
theorem OneAt.free {w : World} {g : Nat} {t : TypeId} {v : Value} (h : OneAt w g t v) : w.frozen? ⟨g, 0, none⟩ = false := frozen_of_row w g 0 _ _ h
theorem OneAt.lt {w : World} {g : Nat} {t : TypeId} {v : Value} (h : OneAt w g t v) : g < w.heap.size := (Array.getElem?_eq_some_iff.1 h).1
theorem OneAt.drew {w : World} {g : Nat} {t : TypeId} {v : Value} (h : OneAt w g t v) : OneAt w.drew g t v := h
theorem OneAt.drewN {w : World} {g : Nat} {t : TypeId} {v : Value} (h : OneAt w g t v) (n : Nat) : OneAt (w.drewN n) g t v := h
theorem OneAt.below {w w' : World} {g B : Nat} {t : TypeId} {v : Value} (h : OneAt w g t v) (hb : Below B w w') (hg : g < B) : OneAt w' g t v := (hb.block g hg).trans h
theorem OneAt.other {w : World} {g : Nat} {t : TypeId} {v : Value} (h : OneAt w g t v) (p : Addr) (u : Value) (hp : g ≠ p.block) : OneAt (w.setCell p u) g t v := (heap_setCell_other w p g u hp).trans h
theorem OneAt.put {w : World} {g : Nat} {t : TypeId} {v : Value} (h : OneAt w g t v) (u : Value) : OneAt (w.setCell ⟨g, 0, none⟩ u) g t u := (heap_setCell_same w g 0 _ _ u h).trans rfl
theorem OneAt.new (w : World) (t : TypeId) (v : Value) : OneAt (w.alloc (.cells #[v] t)) w.heap.size t v := heap_alloc_new w _
end Go.Proofs.Ytnbmpackjgffaaa
