/- Contracts of package be (cellaret): readers that read. -/
import Derived.Test.YtjmginkkjkbpoaaBeA
import Derived.Test.YtjmginkkjkbpoaaBeB
import Derived.Test.YtjmginkkjkbpoaaBeC
namespace Go.Proofs.Ytjmginkkjkbpoaa
open Go.RowKit Go.Deep

/-- A reader in block b: its bytes, how far it was read. -/
structure Rd (w : World) (b : Nat) (s : ByteArray) (k : Int) : Prop where
  text : w.cell? ⟨b, 0, none⟩ = some (.string s)
  at' : w.cell? ⟨b, 1, none⟩ = some (.int .i64 k)
  free : w.frozen? ⟨b, 1, none⟩ = false
  lt : b < w.heap.size
  lo : 0 ≤ k
  hi : k ≤ s.size
theorem Rd.drew {w : World} {b : Nat} {s : ByteArray} {k : Int} (h : Rd w b s k) : Rd w.drew b s k := ⟨h.text, h.at', h.free, h.lt, h.lo, h.hi⟩
theorem Rd.store {w : World} {b : Nat} {s : ByteArray} {k : Int} (h : Rd w b s k) (j : Int) (h0 : 0 ≤ j) (h1 : j ≤ s.size) : Rd (w.setCell ⟨b, 1, none⟩ (.int .i64 j)) b s j := by
  refine ⟨?_, ?_, ?_, ?_, h0, h1⟩
  · have := h.text; go_simp
  · have := h.at'; go_simp
  · have := h.free; go_simp
  · have := h.lt; simpa [World.setCell] using this
theorem Rd.same {w w' : World} {b : Nat} {s : ByteArray} {k : Int} (h : Rd w b s k) (hb : w'.heap[b]? = w.heap[b]?) (hs : w.heap.size ≤ w'.heap.size) : Rd w' b s k :=
  ⟨(World.cell?_of_block (a := ⟨b, 0, none⟩) hb).trans h.text, (World.cell?_of_block (a := ⟨b, 1, none⟩) hb).trans h.at', (World.frozen?_of_block (a := ⟨b, 1, none⟩) hb).trans h.free, Nat.lt_of_lt_of_le h.lt hs, h.lo, h.hi⟩
theorem Rd.below {w w' : World} {b : Nat} {s : ByteArray} {k : Int} (h : Rd w b s k) (hb : Below w.heap.size w w') : Rd w' b s k :=
  h.same (hb.block b h.lt) hb.size
theorem Rd.new (w : World) (s : ByteArray) (t : TypeId) : Rd (w.alloc (.cells #[.string s, .int .i64 0] t)) w.heap.size s 0 :=
  ⟨by simp, by simp, by simp, by simp, by omega, by omega⟩

theorem only_refl (w : World) (row : Option Nat) : w.grownBy w row := World.grownBy.refl w row
theorem only_drew {a w : World} {row : Option Nat} (h : a.grownBy w row) : a.grownBy w.drew row := ⟨h.os, h.tape, h.output, h.size, h.block⟩
theorem only_alloc {a w : World} {row : Option Nat} (h : a.grownBy w row) (o : Obj) : a.grownBy (w.alloc o) row :=
  ⟨h.os, h.tape, h.output, Nat.le_trans h.size (by simp), fun i hi hne => (Below.heap_alloc w o i (Nat.lt_of_lt_of_le hi h.size)).trans (h.block i hi hne)⟩
theorem only_setCell {a w : World} {g : Nat} (h : a.grownBy w (some g)) {p : Addr} (hp : p.block = g ∨ a.heap.size ≤ p.block) (u : Value) : a.grownBy (w.setCell p u) (some g) :=
  ⟨h.os, h.tape, h.output, by simpa [World.setCell] using h.size, fun i hi hne => (Below.heap_setCell w p u i (by
    rintro rfl
    rcases hp with hp | hp
    · exact hne (by rw [hp])
    · omega)).trans (h.block i hi hne)⟩
theorem only_trans {a b c : World} {row : Option Nat} (h : a.grownBy b row) (k : b.grownBy c row) : a.grownBy c row :=
  ⟨k.os.trans h.os, k.tape.trans h.tape, k.output.trans h.output, Nat.le_trans h.size k.size, fun i hi hne => (k.block i (Nat.lt_of_lt_of_le hi h.size) hne).trans (h.block i hi hne)⟩
theorem only_below {a w : World} (h : Below a.heap.size a w) (row : Option Nat) : a.grownBy w row := ⟨h.os, h.tape, h.output, h.size, fun i hi _ => h.block i hi⟩

def numAt (k W e : Int) : Int := if e = 0 then k + W else k
theorem numAt_ok (k W : Int) : numAt k W 0 = k + W := rfl
theorem numAt_no (k W e : Int) (h : e ≠ 0) : numAt k W e = k := by unfold numAt; rw [if_neg h]

end Go.Proofs.Ytjmginkkjkbpoaa
