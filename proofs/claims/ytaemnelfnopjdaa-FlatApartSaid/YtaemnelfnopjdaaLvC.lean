/- Package level: a queue in memory; refused, missing, isLevel, append, take. -/
import Derived.Test.YtaemnelfnopjdaaLvB
import Derived.Test.YtaemnelfnopjdaaLib
import Derived.Test.YtaemnelfnopjdaaLin
import Derived.Test.YtaemnelfnopjdaaLinB
import Derived.Test.YtaemnelfnopjdaaProg
import Derived.WalkKit
import Derived.WalkLawsBesides
import Derived.Handy
import Derived.RegionTactic
import Derived.Deep.QuietTactic
import Derived.Deep.RegionLaw
import Derived.BigQuiet
import Derived.OpenShut
import Derived.OwnWalk
import Derived.ProofKit
import Derived.Below
import Derived.Lib.Hide
import Derived.Deep.CutBlock
namespace Go.Proofs.Ytaemnelfnopjdaa
open Go.RowKit Go.Deep
set_option linter.unusedVariables false
set_option linter.unusedSimpArgs false
/-- What lies below B stays; of what was there only the blocks of L change. -/
structure Kq (B : Nat) (L : List Nat) (w w' : World) : Prop where
  below : Below B w w'
  other : ∀ k, k < w.heap.size → k ∉ L → w'.heap[k]? = w.heap[k]?
theorem Kq.refl (B : Nat) (L : List Nat) (w : World) : Kq B L w w := ⟨Below.refl _ _, fun _ _ _ => rfl⟩
theorem Kq.trans {B : Nat} {L : List Nat} {a b c : World} (h : Kq B L a b) (k : Kq B L b c) : Kq B L a c := ⟨h.below.trans k.below, fun i hi hn => (k.other i (Nat.lt_of_lt_of_le hi h.below.size) hn).trans (h.other i hi hn)⟩
theorem Kq.of_below {B : Nat} {L : List Nat} {w w' : World} (h : Below w.heap.size w w') (hB : B ≤ w.heap.size) : Kq B L w w' := ⟨h.mono hB, fun k hk _ => h.block k hk⟩
theorem Kq.drew {B : Nat} {L : List Nat} {w w' : World} (h : Kq B L w w') : Kq B L w w'.drew := ⟨h.below.drew, h.other⟩
theorem Kq.setCell {B g : Nat} {L : List Nat} {w w' : World} (h : Kq B L w w') (k : Nat) (v : Value) (hB : B ≤ g) (hg : g ∈ L) : Kq B L w (w'.setCell ⟨g, k, none⟩ v) :=
  ⟨h.below.setCell (p := ⟨g, k, none⟩) hB v, fun i hi hn => (Below.heap_setCell w' ⟨g, k, none⟩ v i (fun e => hn (by rw [e]; exact hg))).trans (h.other i hi hn)⟩
theorem Kq.newCell {B g : Nat} {L : List Nat} {w w' : World} (h : Kq B L w w') (k : Nat) (v : Value) (hB : B ≤ g) (hg : w.heap.size ≤ g) : Kq B L w (w'.setCell ⟨g, k, none⟩ v) :=
  ⟨h.below.setCell (p := ⟨g, k, none⟩) hB v, fun i hi hn => (Below.heap_setCell w' ⟨g, k, none⟩ v i (fun e => by have e : i = g := e; omega)).trans (h.other i hi hn)⟩
theorem Kq.row {B b : Nat} {L : List Nat} {w w' : World} {o : Obj} (h : Kq B L w w') (hn : b ∉ L) (hb : w.heap[b]? = some o) : w'.heap[b]? = some o := (h.other b (Array.getElem?_eq_some_iff.1 hb).1 hn).trans hb
theorem Kq.cell {B b o : Nat} {L : List Nat} {w w' : World} {v : Value} (h : Kq B L w w') (hn : b ∉ L) (hc : w.cell? ⟨b, o, none⟩ = some v) : w'.cell? ⟨b, o, none⟩ = some v :=
  (World.cell?_of_block (a := ⟨b, o, none⟩) (h.other b (block_lt_of_cell hc) hn)).trans hc
theorem Kq.frozen {B b o : Nat} {L : List Nat} {w w' : World} (h : Kq B L w w') (hn : b ∉ L) (hb : b < w.heap.size) : w'.frozen? ⟨b, o, none⟩ = w.frozen? ⟨b, o, none⟩ := by
  have := h.other b hb hn
  unfold World.frozen?
  simp only [this]
def refE (n i : Int) : Int := if i < 0 ∨ n ≤ i then 3 else 0
/-- Why a thing is not in it. -/
def misE (F : Nat → Int) (n i : Int) : Int := if i < 0 ∨ n ≤ i then 3 else if F (1 + i.toNat) = -1 then 7 else 0
end Go.Proofs.Ytaemnelfnopjdaa
