/- Package rig (cellaret): a rig; New. -/
import Derived.Test.YtjmginkkjkbpoaaRiC
namespace Go.Proofs.Ytjmginkkjkbpoaa
open Go.RowKit Go.Deep
set_option linter.unusedVariables false
set_option linter.unusedSimpArgs false
/-- What lies below B stays; of what was there, the blocks of L alone turn. -/
structure Kq (B : Nat) (L : List Nat) (w w' : World) : Prop where
  below : Below B w w'
  other : ∀ k, k < w.heap.size → k ∉ L → w'.heap[k]? = w.heap[k]?
theorem Kq.refl (B : Nat) (L : List Nat) (w : World) : Kq B L w w := ⟨Below.refl _ _, fun _ _ _ => rfl⟩
theorem Kq.trans {B : Nat} {L : List Nat} {a b c : World} (h : Kq B L a b) (k : Kq B L b c) : Kq B L a c := ⟨h.below.trans k.below, fun i hi hn => (k.other i (Nat.lt_of_lt_of_le hi h.below.size) hn).trans (h.other i hi hn)⟩
theorem Kq.of_below {B : Nat} {L : List Nat} {w w' : World} (h : Below w.heap.size w w') (hB : B ≤ w.heap.size) : Kq B L w w' := ⟨h.mono hB, fun k hk _ => h.block k hk⟩
theorem Kq.of_kp {B g : Nat} {L : List Nat} {w w' : World} (h : Kp g w w') (hB : B ≤ g) (hg : g ∈ L) : Kq B L w w' := ⟨h.below.mono hB, fun k hk hn => h.other k hk (fun e => hn (by rw [e]; exact hg))⟩
theorem Kq.drew {B : Nat} {L : List Nat} {w w' : World} (h : Kq B L w w') : Kq B L w w'.drew := ⟨h.below.drew, h.other⟩
theorem Kq.setCell {B g : Nat} {L : List Nat} {w w' : World} (h : Kq B L w w') (k : Nat) (v : Value) (hB : B ≤ g) (hg : g ∈ L) : Kq B L w (w'.setCell ⟨g, k, none⟩ v) :=
  ⟨h.below.setCell (p := ⟨g, k, none⟩) hB v, fun i hi hn => (Below.heap_setCell w' ⟨g, k, none⟩ v i (fun e => hn (by rw [e]; exact hg))).trans (h.other i hi hn)⟩
theorem Kq.newCell {B g : Nat} {L : List Nat} {w w' : World} (h : Kq B L w w') (k : Nat) (v : Value) (hB : B ≤ g) (hg : w.heap.size ≤ g) : Kq B L w (w'.setCell ⟨g, k, none⟩ v) :=
  ⟨h.below.setCell (p := ⟨g, k, none⟩) hB v, fun i hi hn => (Below.heap_setCell w' ⟨g, k, none⟩ v i (fun e => by have e : i = g := e; omega)).trans (h.other i hi hn)⟩
theorem Kq.row {B b : Nat} {L : List Nat} {w w' : World} {o : Obj} (h : Kq B L w w') (hn : b ∉ L) (hb : w.heap[b]? = some o) : w'.heap[b]? = some o := (h.other b (Array.getElem?_eq_some_iff.1 hb).1 hn).trans hb
theorem Kq.cell {B b o : Nat} {L : List Nat} {w w' : World} {v : Value} (h : Kq B L w w') (hn : b ∉ L) (hc : w.cell? ⟨b, o, none⟩ = some v) : w'.cell? ⟨b, o, none⟩ = some v :=
  (World.cell?_of_block (a := ⟨b, o, none⟩) (h.other b (block_lt_of_cell hc) hn)).trans hc
theorem Kq.frozen {B b o : Nat} {L : List Nat} {w w' : World} (h : Kq B L w w') (hn : b ∉ L) (hb : b < w.heap.size) : w'.frozen? ⟨b, o, none⟩ = w.frozen? ⟨b, o, none⟩ := by
  have := h.other b hb hn
  unfold World.frozen?
  simp only [this]
/-- A rig's fields beside its devices. -/
structure RgS where
  reg : ByteArray
  down : Bool
  calls : Int
  st : Int
  d : Int
  i : Int
  s : ByteArray
  arm : Int
  faulty : Int
def rgL (g0 g1 : Nat) (S : RgS) : Array Value := #[.pointer (some ⟨g0, 0, none⟩), .pointer (some ⟨g1, 0, none⟩), .string S.reg, .bool S.down, .int .i64 S.calls, .int .i64 S.st, .int .i64 S.d, .int .i64 S.i, .string S.s, .int .i64 S.arm, .int .i64 S.faulty]
/-- Where a rig and its devices lie. -/
structure RgP where
  R : Nat
  g0 : Nat
  r0 : Nat
  g1 : Nat
  r1 : Nat
/-- The blocks that a rig's calls write. -/
def RgP.l (p : RgP) : List Nat := [p.R, p.r0, p.r1]
structure RgP.Ok (p : RgP) (B : Nat) : Prop where
  bR : B ≤ p.R
  b0 : p.R < p.r0
  b1 : p.r0 < p.g0
  b2 : p.g0 < p.r1
  b3 : p.r1 < p.g1
structure RgAt (B : Nat) (w : World) (p : RgP) (S : RgS) (c0 c1 : Nat → Bk) : Prop where
  row : w.heap[p.R]? = some (.cells (rgL p.g0 p.g1 S) 55 (0, 0))
  d0 : DvAt w p.g0 p.r0 288 c0
  d1 : DvAt w p.g1 p.r1 288 c1
  ok : p.Ok B
theorem RgAt.lt {B : Nat} {w : World} {p : RgP} {S : RgS} {c0 c1 : Nat → Bk} (h : RgAt B w p S c0 c1) : p.R < w.heap.size := (Array.getElem?_eq_some_iff.1 h.row).1
theorem RgAt.below {B : Nat} {w w' : World} {p : RgP} {S : RgS} {c0 c1 : Nat → Bk} (h : RgAt B w p S c0 c1) (hb : Below w.heap.size w w') : RgAt B w' p S c0 c1 :=
  ⟨(hb.block _ h.lt).trans h.row, h.d0.below hb, h.d1.below hb, h.ok⟩
theorem RgAt.drew {B : Nat} {w : World} {p : RgP} {S : RgS} {c0 c1 : Nat → Bk} (h : RgAt B w p S c0 c1) : RgAt B w.drew p S c0 c1 := ⟨h.row, h.d0.drew, h.d1.drew, h.ok⟩
theorem DvAt.off {w w' : World} {g rb n : Nat} {bs : Nat → Bk} (h : DvAt w g rb n bs) (hg : w'.heap[g]? = w.heap[g]?) (hr : w'.heap[rb]? = w.heap[rb]?) : DvAt w' g rb n bs :=
  ⟨(World.cell?_of_block (a := ⟨g, 0, none⟩) hg).trans h.hd, World.rowIs.of_block h.row hr, h.ne⟩
theorem RgAt.bound {B : Nat} {w : World} {p : RgP} {S : RgS} {c0 c1 : Nat → Bk} (h : RgAt B w p S c0 c1) : p.g1 < w.heap.size := block_lt_of_cell h.d1.hd
/-- A call of the first device. -/
theorem RgAt.dev0 {B : Nat} {w w' : World} {p : RgP} {S : RgS} {c0 c1 b : Nat → Bk} (h : RgAt B w p S c0 c1) (hd : DvAt w' p.g0 p.r0 288 b) (k : Kp p.r0 w w') : RgAt B w' p S b c1 := by
  have o := h.ok
  have hz := h.bound
  exact ⟨k.row (by have := o.b0; omega) h.row, hd, h.d1.off (k.other _ (by omega) (by have := o.b1; have := o.b2; have := o.b3; omega)) (k.other _ (by have := o.b3; omega) (by have := o.b1; have := o.b2; omega)), o⟩
theorem RgAt.dev1 {B : Nat} {w w' : World} {p : RgP} {S : RgS} {c0 c1 b : Nat → Bk} (h : RgAt B w p S c0 c1) (hd : DvAt w' p.g1 p.r1 288 b) (k : Kp p.r1 w w') : RgAt B w' p S c0 b := by
  have o := h.ok
  have hz := h.bound
  exact ⟨k.row (by have := o.b0; have := o.b1; have := o.b2; omega) h.row, h.d0.off (k.other _ (by have := o.b2; have := o.b3; omega) (by have := o.b2; omega)) (k.other _ (by have := o.b1; have := o.b2; have := o.b3; omega) (by have := o.b1; have := o.b2; omega)), hd, o⟩
theorem RgAt.kq0 {B : Nat} {w w' : World} {p : RgP} {S : RgS} {c0 c1 : Nat → Bk} (h : RgAt B w p S c0 c1) (k : Kp p.r0 w w') : Kq B p.l w w' := Kq.of_kp k (by have := h.ok.bR; have := h.ok.b0; omega) (by unfold RgP.l; simp)
theorem RgAt.kq1 {B : Nat} {w w' : World} {p : RgP} {S : RgS} {c0 c1 : Nat → Bk} (h : RgAt B w p S c0 c1) (k : Kp p.r1 w w') : Kq B p.l w w' := Kq.of_kp k (by have := h.ok.bR; have := h.ok.b0; have := h.ok.b1; have := h.ok.b2; omega) (by unfold RgP.l; simp)
theorem RgAt.cells {B : Nat} {w : World} {p : RgP} {S : RgS} {c0 c1 : Nat → Bk} (h : RgAt B w p S c0 c1) :
    w.cell? ⟨p.R, 0, none⟩ = some (.pointer (some ⟨p.g0, 0, none⟩)) ∧ w.cell? ⟨p.R, 1, none⟩ = some (.pointer (some ⟨p.g1, 0, none⟩)) ∧ w.cell? ⟨p.R, 2, none⟩ = some (.string S.reg) ∧ w.cell? ⟨p.R, 3, none⟩ = some (.bool S.down) ∧ w.cell? ⟨p.R, 4, none⟩ = some (.int .i64 S.calls) ∧ w.cell? ⟨p.R, 5, none⟩ = some (.int .i64 S.st) ∧ w.cell? ⟨p.R, 6, none⟩ = some (.int .i64 S.d) ∧ w.cell? ⟨p.R, 7, none⟩ = some (.int .i64 S.i) ∧ w.cell? ⟨p.R, 8, none⟩ = some (.string S.s) ∧ w.cell? ⟨p.R, 9, none⟩ = some (.int .i64 S.arm) ∧ w.cell? ⟨p.R, 10, none⟩ = some (.int .i64 S.faulty) :=
  ⟨cell_of_row _ _ 0 _ _ _ h.row, cell_of_row _ _ 1 _ _ _ h.row, cell_of_row _ _ 2 _ _ _ h.row, cell_of_row _ _ 3 _ _ _ h.row, cell_of_row _ _ 4 _ _ _ h.row, cell_of_row _ _ 5 _ _ _ h.row, cell_of_row _ _ 6 _ _ _ h.row, cell_of_row _ _ 7 _ _ _ h.row, cell_of_row _ _ 8 _ _ _ h.row, cell_of_row _ _ 9 _ _ _ h.row, cell_of_row _ _ 10 _ _ _ h.row⟩
theorem RgAt.free {B : Nat} {w : World} {p : RgP} {S : RgS} {c0 c1 : Nat → Bk} (h : RgAt B w p S c0 c1) (j : Nat) : w.frozen? ⟨p.R, j, none⟩ = false := frozen_of_row _ _ j _ _ h.row
/-- A store into the rig itself. -/
theorem RgAt.set {B : Nat} {w : World} {p : RgP} {S T : RgS} {c0 c1 : Nat → Bk} (h : RgAt B w p S c0 c1) (j : Nat) (v : Value) (e : (rgL p.g0 p.g1 S).setIfInBounds j v = rgL p.g0 p.g1 T) : RgAt B (w.setCell ⟨p.R, j, none⟩ v) p T c0 c1 := by
  have o := h.ok
  refine ⟨?_, h.d0.off (Below.heap_setCell w ⟨p.R, j, none⟩ v _ ?_) (Below.heap_setCell w ⟨p.R, j, none⟩ v _ ?_), h.d1.off (Below.heap_setCell w ⟨p.R, j, none⟩ v _ ?_) (Below.heap_setCell w ⟨p.R, j, none⟩ v _ ?_), o⟩
  · rw [← e]
    have hr := h.row
    simp only [World.setCell]
    rw [Array.getElem?_modify, if_pos rfl, hr]
    rfl
  · show p.g0 ≠ p.R
    have := o.b0; have := o.b1; omega
  · show p.r0 ≠ p.R
    have := o.b0; omega
  · show p.g1 ≠ p.R
    have := o.b0; have := o.b1; have := o.b2; have := o.b3; omega
  · show p.r1 ≠ p.R
    have := o.b0; have := o.b1; have := o.b2; omega
theorem RgAt.kset {B : Nat} {w w0 : World} {p : RgP} {S : RgS} {c0 c1 : Nat → Bk} (h : RgAt B w p S c0 c1) (k : Kq B p.l w0 w) (j : Nat) (v : Value) : Kq B p.l w0 (w.setCell ⟨p.R, j, none⟩ v) := k.setCell j v h.ok.bR (by unfold RgP.l; simp)
end Go.Proofs.Ytjmginkkjkbpoaa
