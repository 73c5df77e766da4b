/- Laws of package rig (cellaret): RigNone. -/
import Derived.Test.YtjmginkkjkbpoaaRiM
import Derived.Test.YtjmginkkjkbpoaaOpenR
import Derived.OpenShut
import Derived.ChangeArms
namespace Go.Proofs.Ytjmginkkjkbpoaa
open Go.RowKit Go.Deep Go.ChangeShapes Go.WideShapes
set_option linter.unusedVariables false
set_option linter.unusedSimpArgs false
theorem few_any12 (k d i n : Int) (s : ByteArray) (raw : Bool) (x0 x1 x2 y0 y1 y2 : Value) (w : World) : Calls Try.prog 9 #[.agg #[.int .i64 k, .int .i64 d, .int .i64 i, .int .i64 n, .string s, .bool raw, x0, x1, x2, y0, y1, y2]] w fun e w' => e = .returned (.bool (decide ((s.size : Int) < 300))) ∧ Below w.heap.size w w' := by
  go_enter Try.func9, Try.ntmps9
  go_wp2_with fail
  go_ret
  exact ⟨rfl, (Below.refl _ _).alloc (Nat.le_refl _) _⟩
def AcS (b m : Nat) (w1 : World) (k d i n : Int) (s : ByteArray) (raw : Bool) (x0 x1 x2 y0 y1 y2 : Value) (w' : World) : Prop :=
  (w'.cell? ⟨b, 0, none⟩ = some (.int .i64 k) ∧ w'.cell? ⟨b, 1, none⟩ = some (.int .i64 d) ∧ w'.cell? ⟨b, 2, none⟩ = some (.int .i64 i) ∧ w'.cell? ⟨b, 3, none⟩ = some (.int .i64 n) ∧ w'.cell? ⟨b, 4, none⟩ = some (.string s) ∧ w'.cell? ⟨b, 5, none⟩ = some (.bool raw) ∧ w'.cell? ⟨b, 6, none⟩ = some x0 ∧ w'.cell? ⟨b, 7, none⟩ = some x1 ∧ w'.cell? ⟨b, 8, none⟩ = some x2 ∧ w'.cell? ⟨b, 9, none⟩ = some y0 ∧ w'.cell? ⟨b, 10, none⟩ = some y1 ∧ w'.cell? ⟨b, 11, none⟩ = some y2) ∧ Below m w1 w' ∧ b < m ∧ m ≤ w'.heap.size
theorem AcS.on {b m : Nat} {w1 w2 w3 : World} {k d i n : Int} {s : ByteArray} {raw : Bool} {x0 x1 x2 y0 y1 y2 : Value} (h : AcS b m w1 k d i n s raw x0 x1 x2 y0 y1 y2 w2) (hb : Below w2.heap.size w2 w3) : AcS b m w1 k d i n s raw x0 x1 x2 y0 y1 y2 w3 := by
  obtain ⟨⟨c0, c1, c2, c3, c4, c5, c6, c7, c8, c9, c10, c11⟩, hB, hl, hn⟩ := h
  have q : ∀ j v, w2.cell? ⟨b, j, none⟩ = some v → w3.cell? ⟨b, j, none⟩ = some v := fun j v hv => (hb.cell (p := ⟨b, j, none⟩) (show b < w2.heap.size by omega)).trans hv
  exact ⟨⟨q _ _ c0, q _ _ c1, q _ _ c2, q _ _ c3, q _ _ c4, q _ _ c5, q _ _ c6, q _ _ c7, q _ _ c8, q _ _ c9, q _ _ c10, q _ _ c11⟩, hB.trans (hb.mono hn), hl, Nat.le_trans hn hb.size⟩
theorem AcS.drew {b m : Nat} {w1 w2 : World} {k d i n : Int} {s : ByteArray} {raw : Bool} {x0 x1 x2 y0 y1 y2 : Value} (h : AcS b m w1 k d i n s raw x0 x1 x2 y0 y1 y2 w2) : AcS b m w1 k d i n s raw x0 x1 x2 y0 y1 y2 w2.drew :=
  ⟨h.1, h.2.1.drew, h.2.2.1, h.2.2.2⟩
theorem box_act12 (k d i n : Int) (s : ByteArray) (raw : Bool) (x0 x1 x2 y0 y1 y2 : Value) (w : World) : ∃ w1, Hid (w.alloc (.cells #[.int .i64 k, .int .i64 d, .int .i64 i, .int .i64 n, .string s, .bool raw, x0, x1, x2, y0, y1, y2] 34) = w1) ∧ Hid (Below w.heap.size w w1) ∧ Hid (AcS w.heap.size (w.heap.size + 1) w1 k d i n s raw x0 x1 x2 y0 y1 y2 w1) := by
  have h := heap_alloc_new w (.cells #[.int .i64 k, .int .i64 d, .int .i64 i, .int .i64 n, .string s, .bool raw, x0, x1, x2, y0, y1, y2] 34)
  exact ⟨_, Lib.hid rfl, Lib.hid ((Below.refl _ _).alloc (Nat.le_refl _) _), Lib.hid ⟨⟨cell_of_row _ _ 0 _ _ _ h, cell_of_row _ _ 1 _ _ _ h, cell_of_row _ _ 2 _ _ _ h, cell_of_row _ _ 3 _ _ _ h, cell_of_row _ _ 4 _ _ _ h, cell_of_row _ _ 5 _ _ _ h, cell_of_row _ _ 6 _ _ _ h, cell_of_row _ _ 7 _ _ _ h, cell_of_row _ _ 8 _ _ _ h, cell_of_row _ _ 9 _ _ _ h, cell_of_row _ _ 10 _ _ _ h, cell_of_row _ _ 11 _ _ _ h⟩, Below.refl _ _, Nat.lt_succ_self _, (Array.getElem?_eq_some_iff.1 h).1⟩⟩
theorem rigNone_far (k d i n : Int) (s : ByteArray) (raw : Bool) (x0 x1 x2 y0 y1 y2 : Value) (w : World) (hs : ¬ s.size < 300) : Calls Try.prog 4 #[.agg #[.int .i64 k, .int .i64 d, .int .i64 i, .int .i64 n, .string s, .bool raw, x0, x1, x2, y0, y1, y2]] w fun e w' => e = .returned (.bool true) ∧ Below w.heap.size w w' := by
  have FE := Lib.hid (fun w => few_any12 k d i n s raw x0 x1 x2 y0 y1 y2 w)
  rw [show decide ((s.size : Int) < 300) = false from by simp; omega] at FE
  obtain ⟨w1, HW1, HB1, hz1⟩ := box_act12 k d i n s raw x0 x1 x2 y0 y1 y2 w
  clear hs
  go_enter Try.func4, Try.ntmps4
  go_upto_region 1 with fail
  rw [HW1.out]
  obtain ⟨⟨c0, c1, c2, c3, c4, c5, c6, c7, c8, c9, c10, c11⟩, hB1, hlt, hle⟩ := hz1.out
  have hz := hz1
  clear HW1 hz1 hB1
  go_wp2_with fail
  refine (FE.out _).mono ?_
  rintro e w2 ⟨rfl, b2⟩
  have Z2 := Lib.hid (hz.out.on b2)
  clear hz b2 c0 c1 c2 c3 c4 c5 c6 c7 c8 c9 c10 c11 hlt hle FE
  go_wp2_with fail
  refine (awake12 _).mono ?_
  rintro e w3 ⟨rfl, b3⟩
  have Z3 := Lib.hid (Z2.out.on b3)
  go_wp2_with fail
  go_ret
  exact ⟨rfl, HB1.out.trans (Z3.out.2.1.mono (Nat.le_succ _))⟩
end Go.Proofs.Ytjmginkkjkbpoaa
