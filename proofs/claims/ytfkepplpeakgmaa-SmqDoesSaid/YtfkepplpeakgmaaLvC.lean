/- Package level: a queue in memory; refused, missing, isLevel, append, take. -/
import Derived.Test.YtfkepplpeakgmaaLvB
import Derived.Test.YtfkepplpeakgmaaLib
import Derived.Test.YtfkepplpeakgmaaLin
import Derived.Test.YtfkepplpeakgmaaLinB
import Derived.Test.YtfkepplpeakgmaaProg
import Derived.WalkKit
import Derived.WalkLawsBesides
import Derived.Handy
import Derived.RegionTactic
import Derived.Deep.QuietTactic
import Derived.Deep.RegionLaw
import Derived.BigQuiet
import Derived.OpenShut
import Derived.OwnWalk
import Derived.ProofKit
import Derived.Below
import Derived.Lib.Hide
import Derived.Deep.CutBlock
namespace Go.Proofs.Ytfkepplpeakgmaa
open Go.RowKit Go.Deep
set_option linter.unusedVariables false
set_option linter.unusedSimpArgs false
/-- What lies below B stays; of what was there only the blocks of L change. -/
structure Kq (B : Nat) (L : List Nat) (w w' : World) : Prop where
  below : Below B w w'
  other : ∀ k, k < w.heap.size → k ∉ L → w'.heap[k]? = w.heap[k]?
theorem Kq.refl (B : Nat) (L : List Nat) (w : World) : Kq B L w w := ⟨Below.refl _ _, fun _ _ _ => rfl⟩
theorem Kq.trans {B : Nat} {L : List Nat} {a b c : World} (h : Kq B L a b) (k : Kq B L b c) : Kq B L a c := ⟨h.below.trans k.below, fun i hi hn => (k.other i (Nat.lt_of_lt_of_le hi h.below.size) hn).trans (h.other i hi hn)⟩
theorem Kq.of_below {B : Nat} {L : List Nat} {w w' : World} (h : Below w.heap.size w w') (hB : B ≤ w.heap.size) : Kq B L w w' := ⟨h.mono hB, fun k hk _ => h.block k hk⟩
theorem Kq.drew {B : Nat} {L : List Nat} {w w' : World} (h : Kq B L w w') : Kq B L w w'.drew := ⟨h.below.drew, h.other⟩
theorem Kq.setCell {B g : Nat} {L : List Nat} {w w' : World} (h : Kq B L w w') (k : Nat) (v : Value) (hB : B ≤ g) (hg : g ∈ L) : Kq B L w (w'.setCell ⟨g, k, none⟩ v) :=
  ⟨h.below.setCell (p := ⟨g, k, none⟩) hB v, fun i hi hn => (Below.heap_setCell w' ⟨g, k, none⟩ v i (fun e => hn (by rw [e]; exact hg))).trans (h.other i hi hn)⟩
theorem Kq.newCell {B g : Nat} {L : List Nat} {w w' : World} (h : Kq B L w w') (k : Nat) (v : Value) (hB : B ≤ g) (hg : w.heap.size ≤ g) : Kq B L w (w'.setCell ⟨g, k, none⟩ v) :=
  ⟨h.below.setCell (p := ⟨g, k, none⟩) hB v, fun i hi hn => (Below.heap_setCell w' ⟨g, k, none⟩ v i (fun e => by have e : i = g := e; omega)).trans (h.other i hi hn)⟩
theorem Kq.row {B b : Nat} {L : List Nat} {w w' : World} {o : Obj} (h : Kq B L w w') (hn : b ∉ L) (hb : w.heap[b]? = some o) : w'.heap[b]? = some o := (h.other b (Array.getElem?_eq_some_iff.1 hb).1 hn).trans hb
theorem Kq.cell {B b o : Nat} {L : List Nat} {w w' : World} {v : Value} (h : Kq B L w w') (hn : b ∉ L) (hc : w.cell? ⟨b, o, none⟩ = some v) : w'.cell? ⟨b, o, none⟩ = some v :=
  (World.cell?_of_block (a := ⟨b, o, none⟩) (h.other b (block_lt_of_cell hc) hn)).trans hc
theorem Kq.frozen {B b o : Nat} {L : List Nat} {w w' : World} (h : Kq B L w w') (hn : b ∉ L) (hb : b < w.heap.size) : w'.frozen? ⟨b, o, none⟩ = w.frozen? ⟨b, o, none⟩ := by
  have := h.other b hb hn
  unfold World.frozen?
  simp only [this]
/-- A queue at block g: its 57 numbers. -/
def QAt (w : World) (g : Nat) (F : Nat → Int) : Prop := w.rowIs g 71 57 (fun j => .int .i64 (F j))
theorem QAt.cell {w : World} {g : Nat} {F : Nat → Int} (h : QAt w g F) (j : Nat) (hj : j < 57) : w.cell? ⟨g, j, none⟩ = some (.int .i64 (F j)) := World.rowIs.cell h hj
theorem QAt.free {w : World} {g : Nat} {F : Nat → Int} (h : QAt w g F) (j : Nat) : w.frozen? ⟨g, j, none⟩ = false := World.rowIs.frozen h j
theorem QAt.lt {w : World} {g : Nat} {F : Nat → Int} (h : QAt w g F) : g < w.heap.size := World.rowIs.lt h
theorem QAt.drew {w : World} {g : Nat} {F : Nat → Int} (h : QAt w g F) : QAt w.drew g F := h
theorem QAt.set {w : World} {g : Nat} {F : Nat → Int} (h : QAt w g F) (j : Nat) (v : Int) : QAt (w.setCell ⟨g, j, none⟩ (.int .i64 v)) g (su F j v) :=
  (World.rowIs.set h j (.int .i64 v)).congr fun k _ => by unfold su; split <;> rfl
theorem QAt.block {w w' : World} {g : Nat} {F : Nat → Int} (h : QAt w g F) (e : w'.heap[g]? = w.heap[g]?) : QAt w' g F := World.rowIs.of_block h e
theorem QAt.below {w w' : World} {g : Nat} {F : Nat → Int} (h : QAt w g F) (b : Below w.heap.size w w') : QAt w' g F := h.block (b.block g h.lt)
def refE (n i : Int) : Int := if i < 0 ∨ n ≤ i then 3 else 0
set_option maxRecDepth 100000 in
set_option maxHeartbeats 2000000 in
theorem refused_any (g : Nat) (F : Nat → Int) (i : Int) (w : World) (h : QAt w g F) : Calls Try.prog 53 #[.pointer (some ⟨g, 0, none⟩), .int .i64 i] w fun e w' => e = .returned (.int .i64 (refE (F 0) i)) ∧ w = w' := by
  have c0 := h.cell 0 (by omega)
  generalize F 0 = n at *
  clear h
  unfold refE
  by_cases h1 : i < 0
  · rw [if_pos (Or.inl h1)]
    go_enter Try.func53, Try.ntmps53
    go_wp2_with fail
    go_ret
    exact ⟨rfl, rfl⟩
  · by_cases h2 : n ≤ i
    · rw [if_pos (Or.inr h2)]
      go_enter Try.func53, Try.ntmps53
      go_wp2_with fail
      go_ret
      exact ⟨rfl, rfl⟩
    · rw [if_neg (by omega)]
      go_enter Try.func53, Try.ntmps53
      go_wp2_with fail
      go_ret
      exact ⟨rfl, rfl⟩
theorem isLevel_any (l : Int) (w : World) : Calls Try.prog 46 #[.int .i64 l] w fun e w' => e = .returned (.bool (decide (0 ≤ l ∧ l < 4))) ∧ w = w' := by
  by_cases h1 : 0 ≤ l
  · by_cases h2 : l < 4
    · rw [decide_eq_true (p := 0 ≤ l ∧ l < 4) ⟨h1, h2⟩]
      go_enter Try.func46, Try.ntmps46
      go_wp2_with fail
      go_ret
      exact ⟨rfl, rfl⟩
    · rw [decide_eq_false (p := 0 ≤ l ∧ l < 4) (fun h => h2 h.2)]
      go_enter Try.func46, Try.ntmps46
      go_wp2_with fail
      go_ret
      exact ⟨rfl, rfl⟩
  · rw [decide_eq_false (p := 0 ≤ l ∧ l < 4) (fun h => h1 h.1)]
    go_enter Try.func46, Try.ntmps46
    go_wp2_with fail
    go_ret
    exact ⟨rfl, rfl⟩
/-- Why a thing is not in it. -/
def misE (F : Nat → Int) (n i : Int) : Int := if i < 0 ∨ n ≤ i then 3 else if F (1 + i.toNat) = -1 then 7 else 0
set_option maxRecDepth 100000 in
set_option maxHeartbeats 2000000 in
theorem missing_any (g : Nat) (F : Nat → Int) (n : Nat) (i : Int) (w : World) (h : QAt w g F) (hn : F 0 = (n : Int)) (h16 : n ≤ 16) : Calls Try.prog 52 #[.pointer (some ⟨g, 0, none⟩), .int .i64 i] w fun e w' => e = .returned (.int .i64 (misE F n i)) ∧ w = w' := by
  have PR := Lib.hid (refused_any g F i w h)
  rw [hn] at PR
  unfold misE
  unfold refE at PR
  by_cases h1 : i < 0 ∨ (n : Int) ≤ i
  · rw [if_pos h1] at PR ⊢
    clear h h1 hn
    go_enter Try.func52, Try.ntmps52
    go_wp2_with fail
    refine PR.out.mono ?_
    rintro e w' ⟨rfl, rfl⟩
    go_wp2_with fail
    go_ret
    exact ⟨rfl, rfl⟩
  · rw [if_neg h1] at PR ⊢
    obtain ⟨k, rfl⟩ : ∃ k : Nat, i = (k : Int) := ⟨i.toNat, by omega⟩
    have hk : (k : Int) < 16 := by omega
    have c1 := h.cell (1 + k) (by omega)
    rw [Int.toNat_natCast]
    clear h h1 hn h16
    by_cases h2 : F (1 + k) = -1
    · rw [if_pos h2]
      rw [h2] at c1
      clear h2
      go_enter Try.func52, Try.ntmps52
      go_wp2_with fail
      refine PR.out.mono ?_
      rintro e w' ⟨rfl, rfl⟩
      go_wp2_with fail
      go_ret
      exact ⟨rfl, rfl⟩
    · rw [if_neg h2]
      have hb : (F (1 + k) == -1) = false := by simpa using h2
      generalize F (1 + k) = v at *
      clear h2
      go_enter Try.func52, Try.ntmps52
      go_wp2_with fail
      refine PR.out.mono ?_
      rintro e w' ⟨rfl, rfl⟩
      go_wp2_with fail
      go_ret
      exact ⟨rfl, rfl⟩
end Go.Proofs.Ytfkepplpeakgmaa
