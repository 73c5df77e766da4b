/- Package record (cellaret): records, as lists. -/
import Derived.Test.YtnlgkhggokloeaaPlH
import Derived.Deep.MidRow
import Derived.Deep.RegionWith
import Derived.Laws.CopyOwn
import Derived.Laws.MakeOwn
import Derived.Laws.EntriesVeiled
import Derived.Deep.AppendLies
import Derived.Deep.CutBlock
namespace Go.Proofs.Ytnlgkhggokloeaa
open Go.RowKit Go.Deep
set_option linter.unusedVariables false
set_option linter.unusedSimpArgs false
/-- A Put: where, and what. -/
abbrev Pt : Type := Int × ByteArray
def pAt (ps : List Pt) (j : Nat) : Int := (ps[j]?.getD (0, ⟨#[]⟩)).1
def pB (ps : List Pt) (j : Nat) : ByteArray := (ps[j]?.getD (0, ⟨#[]⟩)).2
def pPrev (ps : List Pt) (j : Nat) : Int := if j = 0 then 160 else pAt ps (j - 1)
theorem pPrev_zero (ps : List Pt) : pPrev ps 0 = 160 := rfl
theorem pPrev_succ (ps : List Pt) (j : Nat) : pPrev ps (j + 1) = pAt ps j := rfl
def okAt (ps : List Pt) (j : Nat) : Prop := pPrev ps j < pAt ps j ∧ pAt ps j ≤ 287 ∧ (pB ps j).size = 64
def okPs (ps : List Pt) : Prop := ∀ j, j < ps.length → okAt ps j
/-- A record. -/
structure Rc where
  seq : Int
  root : List UInt8
  ps : List Pt
instance okAt_dec (ps : List Pt) (j : Nat) : Decidable (okAt ps j) := by unfold okAt; exact inferInstance
instance okPs_dec (ps : List Pt) : Decidable (okPs ps) := by unfold okPs; exact inferInstance
/-- Why a record may not be. -/
def chkE (R : Rc) : Int := if 64 < R.ps.length then 4 else if R.seq < 0 ∨ 4294967295 < R.seq then 2 else if okPs R.ps then 0 else 2
theorem chkE_big {R : Rc} (h : 64 < R.ps.length) : chkE R = 4 := by unfold chkE; rw [if_pos h]
theorem chkE_seq {R : Rc} (h : ¬ 64 < R.ps.length) (h2 : R.seq < 0 ∨ 4294967295 < R.seq) : chkE R = 2 := by unfold chkE; rw [if_neg h, if_pos h2]
theorem chkE_no {R : Rc} (h : ¬ 64 < R.ps.length) (h2 : ¬ okPs R.ps) : chkE R = 2 := by
  unfold chkE
  rw [if_neg h]
  split
  · rfl
  · first | rfl | rw [if_neg h2]
theorem chkE_ok {R : Rc} (h : ¬ 64 < R.ps.length) (h2 : ¬ (R.seq < 0 ∨ 4294967295 < R.seq)) (h3 : okPs R.ps) : chkE R = 0 := by unfold chkE; rw [if_neg h, if_neg h2, if_pos h3]
theorem chkE_zero {R : Rc} (h : chkE R = 0) : R.ps.length ≤ 64 ∧ 0 ≤ R.seq ∧ R.seq ≤ 4294967295 ∧ okPs R.ps := by
  unfold chkE at h
  split at h
  · cases h
  · split at h
    · cases h
    · split at h
      · rename_i h1 h2 h3; exact ⟨by omega, by omega, by omega, h3⟩
      · cases h
theorem okPs_low {ps : List Pt} (h : okPs ps) : ∀ j, j < ps.length → 160 < pAt ps j
  | 0, h0 => by have := (h 0 h0).1; rw [pPrev_zero] at this; exact this
  | j + 1, hj => by
    have h1 := okPs_low h j (by omega)
    have := (h (j + 1) hj).1
    rw [pPrev_succ] at this
    omega
/-- Puts behind a slice. -/
def PtAt (w : World) (a : Option Addr) (ps : List Pt) : Prop := 0 < ps.length → ∃ g o, a = some ⟨g, o, none⟩ ∧ g < w.heap.size ∧ ∀ i, i < ps.length → w.cell? ⟨g, o + i * 2, none⟩ = some (.int .i64 (pAt ps i)) ∧ w.cell? ⟨g, o + i * 2 + 1, none⟩ = some (.string (pB ps i))
theorem PtAt.below {w w' : World} {a : Option Addr} {ps : List Pt} (h : PtAt w a ps) (hb : Below w.heap.size w w') : PtAt w' a ps := fun h0 => by
  obtain ⟨g, o, h1, h2, h3⟩ := h h0
  exact ⟨g, o, h1, Nat.lt_of_lt_of_le h2 hb.size, fun i hi => ⟨(hb.cell (p := ⟨g, o + i * 2, none⟩) h2).trans (h3 i hi).1, (hb.cell (p := ⟨g, o + i * 2 + 1, none⟩) h2).trans (h3 i hi).2⟩⟩
def rootV (l : List UInt8) : List Value := l.map fun b => .int .u8 (b.toNat : Int)
theorem rootV_len (l : List UInt8) : (rootV l).length = l.length := by simp [rootV]
/-- A record's cells; its Puts lie behind the slice v. -/
def rcA (R : Rc) (v : Value) : Array Value := (.int .i64 R.seq :: (rootV R.root ++ [v])).toArray
theorem rcA_size (R : Rc) (v : Value) (h : R.root.length = 32) : (rcA R v).size = 34 := by simp [rcA, rootV_len, h]
def RcAt (w : World) (g : Nat) (R : Rc) (v : Value) : Prop := w.heap[g]? = some (.cells (rcA R v) 34 (0, 0)) ∧ R.root.length = 32
theorem RcAt.lt {w : World} {g : Nat} {R : Rc} {v : Value} (h : RcAt w g R v) : g < w.heap.size := (Array.getElem?_eq_some_iff.1 h.1).1
theorem RcAt.below {w w' : World} {g : Nat} {R : Rc} {v : Value} (h : RcAt w g R v) (hb : Below w.heap.size w w') : RcAt w' g R v := ⟨(hb.block g h.lt).trans h.1, h.2⟩
theorem RcAt.seq {w : World} {g : Nat} {R : Rc} {v : Value} (h : RcAt w g R v) : w.cell? ⟨g, 0, none⟩ = some (.int .i64 R.seq) := (cell_of_row w g 0 _ _ _ h.1).trans rfl
theorem RcAt.ps {w : World} {g : Nat} {R : Rc} {v : Value} (h : RcAt w g R v) : w.cell? ⟨g, 33, none⟩ = some v := (cell_of_row w g 33 _ _ _ h.1).trans (by
  have hl : (rootV R.root).length = 32 := by rw [rootV_len, h.2]
  simp [rcA, List.getElem?_append, hl])
theorem RcAt.root {w : World} {g : Nat} {R : Rc} {v : Value} (h : RcAt w g R v) : w.rangeAt g 1 (rootV R.root) := fun j u hu => by
  have hl : (rootV R.root).length = 32 := by rw [rootV_len, h.2]
  have hj : j < 32 := by have := (List.getElem?_eq_some_iff.1 hu).1; omega
  rw [cell_of_row w g (1 + j) _ _ _ h.1]
  rw [← hu]
  simp [rcA, Nat.add_comm 1 j, List.getElem?_append, hl, hj]
theorem box_rc (w : World) (R : Rc) (v : Value) (h : R.root.length = 32) : ∃ w1, Hid (w.alloc (.cells (rcA R v) 34) = w1) ∧ RcAt w1 w.heap.size R v ∧ Hid (Below w.heap.size w w1) :=
  ⟨_, Lib.hid rfl, ⟨heap_alloc_new _ _, h⟩, Lib.hid ((Below.refl _ _).alloc (Nat.le_refl _) _)⟩
attribute [local irreducible] rcA
def lenN (n : Nat) : Nat := 1 + (n + 31) / 32 + n
def lengthV (n : Int) : Int := if n < 0 ∨ 64 < n then 0 else (lenN n.toNat : Int)
end Go.Proofs.Ytnlgkhggokloeaa
