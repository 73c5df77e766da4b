/- The reference's rig: its cells; less; a store into it. -/
import Derived.Test.YtjmginkkjkbpoaaRwC
namespace Go.Proofs.Ytjmginkkjkbpoaa
open Go.RowKit Go.Deep
set_option linter.unusedVariables false
set_option linter.unusedSimpArgs false
/-- The fields of the reference's rig beside its devices. -/
structure XrS where
  rg : ByteArray
  dn : Bool
  ca : Int
  lt : Int
  ar : Int
  fa : Int
  a0 : Int
  a1 : Int
  s : ByteArray
def xrA (g0 g1 : Nat) (S : XrS) : Array Value := #[.pointer (some ⟨g0, 0, none⟩), .pointer (some ⟨g1, 0, none⟩), .string S.rg, .bool S.dn, .int .i64 S.ca, .int .i64 S.lt, .int .i64 S.ar, .int .i64 S.fa, .int .i64 S.a0, .int .i64 S.a1, .string S.s]
/-- What is to come may come. -/
def XrS.ok (S : XrS) : Prop := S.lt ≤ 0 ∨ ((S.a0 = 0 ∨ S.a0 = 1) ∧ (0 ≤ S.a1 ∧ S.a1 < 288) ∧ S.s.size = 64)
/-- The reference's rig at block x, its devices at g0 and g1. -/
structure XAt (w : World) (B x g0 g1 : Nat) (S : XrS) : Prop where
  row : w.heap[x]? = some (.cells (xrA g0 g1 S) 64 (0, 0))
  bx : B ≤ x
  d0 : DAt w B g0
  d1 : DAt w B g1
  ne : g0 ≠ g1
  ok : S.ok
def xrl (x g0 g1 : Nat) : List Nat := [x, g0, g1]
theorem XAt.lt {w : World} {B x g0 g1 : Nat} {S : XrS} (h : XAt w B x g0 g1 S) : x < w.heap.size := (Array.getElem?_eq_some_iff.1 h.row).1
theorem DAt.of_block {w w' : World} {B g : Nat} (h : DAt w B g) (hg : w'.heap[g]? = w.heap[g]?) (hb : ∀ k, B ≤ k → k < w.heap.size → (∀ cs, w.heap[k]? ≠ some (.cells cs 79 (0, 0))) → (∀ cs, w.heap[k]? ≠ some (.cells cs 64 (0, 0))) → w'.heap[k]? = w.heap[k]?) : DAt w' B g := by
  obtain ⟨h0, n, s, b, hg0, h1, h2, h3⟩ := h
  have hq : ∀ g cs, B ≤ g → w.heap[g]? = some (.cells cs 9 (0, 0)) → w'.heap[g]? = w.heap[g]? := fun g cs hB hg => hb g hB (Array.getElem?_eq_some_iff.1 hg).1 (fun c e => by rw [hg] at e; injection e with e; injection e with _ e; exact absurd e (by decide)) (fun c e => by rw [hg] at e; injection e with e; injection e with _ e; exact absurd e (by decide))
  have hq2 : ∀ g cs, B ≤ g → w.heap[g]? = some (.cells cs 4 (0, 0)) → w'.heap[g]? = w.heap[g]? := fun g cs hB hg => hb g hB (Array.getElem?_eq_some_iff.1 hg).1 (fun c e => by rw [hg] at e; injection e with e; injection e with _ e; exact absurd e (by decide)) (fun c e => by rw [hg] at e; injection e with e; injection e with _ e; exact absurd e (by decide))
  exact ⟨h0, n, s, b, hg.trans hg0, h1.of_block hq, h2.of_block hq, h3.of_block hq2⟩
/-- A device beside one that a call has changed. -/
theorem DAt.kq {w w' : World} {B g g' : Nat} (h : DAt w B g) (h' : DAt w B g') (k : Kq B [g'] w w') (hne : g ≠ g') : DAt w' B g := by
  obtain ⟨_, n, s, b, hg', _⟩ := h'
  exact h.of_block (k.other g h.lt (by simpa using hne)) fun i _ hi h1 _ => k.other i hi (by
    simp only [List.mem_singleton]
    intro e
    subst e
    exact h1 _ hg')
theorem XAt.cells {w : World} {B x g0 g1 : Nat} {S : XrS} (h : XAt w B x g0 g1 S) :
    w.cell? ⟨x, 0, none⟩ = some (.pointer (some ⟨g0, 0, none⟩)) ∧ w.cell? ⟨x, 1, none⟩ = some (.pointer (some ⟨g1, 0, none⟩)) ∧ w.cell? ⟨x, 2, none⟩ = some (.string S.rg) ∧ w.cell? ⟨x, 3, none⟩ = some (.bool S.dn) ∧ w.cell? ⟨x, 4, none⟩ = some (.int .i64 S.ca) ∧ w.cell? ⟨x, 5, none⟩ = some (.int .i64 S.lt) ∧ w.cell? ⟨x, 6, none⟩ = some (.int .i64 S.ar) ∧ w.cell? ⟨x, 7, none⟩ = some (.int .i64 S.fa) ∧ w.cell? ⟨x, 8, none⟩ = some (.int .i64 S.a0) ∧ w.cell? ⟨x, 9, none⟩ = some (.int .i64 S.a1) ∧ w.cell? ⟨x, 10, none⟩ = some (.string S.s) :=
  ⟨cell_of_row _ _ 0 _ _ _ h.row, cell_of_row _ _ 1 _ _ _ h.row, cell_of_row _ _ 2 _ _ _ h.row, cell_of_row _ _ 3 _ _ _ h.row, cell_of_row _ _ 4 _ _ _ h.row, cell_of_row _ _ 5 _ _ _ h.row, cell_of_row _ _ 6 _ _ _ h.row, cell_of_row _ _ 7 _ _ _ h.row, cell_of_row _ _ 8 _ _ _ h.row, cell_of_row _ _ 9 _ _ _ h.row, cell_of_row _ _ 10 _ _ _ h.row⟩
theorem XAt.at8 {w : World} {B x g0 g1 : Nat} {S : XrS} (h : XAt w B x g0 g1 S) : w.cell? ⟨x, 8, none⟩ = some (.int .i64 S.a0) := cell_of_row _ _ 8 _ _ _ h.row
theorem XAt.at9 {w : World} {B x g0 g1 : Nat} {S : XrS} (h : XAt w B x g0 g1 S) : w.cell? ⟨x, 9, none⟩ = some (.int .i64 S.a1) := cell_of_row _ _ 9 _ _ _ h.row
theorem XAt.at10 {w : World} {B x g0 g1 : Nat} {S : XrS} (h : XAt w B x g0 g1 S) : w.cell? ⟨x, 10, none⟩ = some (.string S.s) := cell_of_row _ _ 10 _ _ _ h.row
theorem XAt.free {w : World} {B x g0 g1 : Nat} {S : XrS} (h : XAt w B x g0 g1 S) (j : Nat) : w.frozen? ⟨x, j, none⟩ = false := frozen_of_row _ _ j _ _ h.row
theorem XAt.below {w w' : World} {B x g0 g1 : Nat} {S : XrS} (h : XAt w B x g0 g1 S) (hb : Below w.heap.size w w') : XAt w' B x g0 g1 S := ⟨(hb.block _ h.lt).trans h.row, h.bx, h.d0.below hb, h.d1.below hb, h.ne, h.ok⟩
theorem XAt.drew {w : World} {B x g0 g1 : Nat} {S : XrS} (h : XAt w B x g0 g1 S) : XAt w.drew B x g0 g1 S := h.below (Below.refl _ _).drew
/-- A store into the rig itself. -/
theorem XAt.set {w : World} {B x g0 g1 : Nat} {S T : XrS} (h : XAt w B x g0 g1 S) (j : Nat) (v : Value) (e : (xrA g0 g1 S).setIfInBounds j v = xrA g0 g1 T) (ok : T.ok) : XAt (w.setCell ⟨x, j, none⟩ v) B x g0 g1 T := by
  have hr := h.row
  have hx : ∀ k, k ≠ x → (w.setCell ⟨x, j, none⟩ v).heap[k]? = w.heap[k]? := fun k hk => Below.heap_setCell w ⟨x, j, none⟩ v k hk
  have hd : ∀ g, DAt w B g → DAt (w.setCell ⟨x, j, none⟩ v) B g := fun g hg => by
    have hgx : g ≠ x := fun e => by
      obtain ⟨_, n, s, b, hg0, _⟩ := hg
      rw [e, hr] at hg0
      injection hg0 with hg0
      injection hg0 with _ q
      exact absurd q (by decide)
    exact hg.of_block (hx g hgx) fun k _ _ _ h2 => hx k fun e => h2 (xrA g0 g1 S) (by rw [e]; exact hr)
  exact ⟨by rw [heap_set hr, e], h.bx, hd _ h.d0, hd _ h.d1, h.ne, ok⟩
theorem XAt.kset {w w0 : World} {B x g0 g1 : Nat} {S : XrS} (h : XAt w B x g0 g1 S) (k : Kq B (xrl x g0 g1) w0 w) (j : Nat) (v : Value) : Kq B (xrl x g0 g1) w0 (w.setCell ⟨x, j, none⟩ v) := k.setCell j v h.bx (by simp [xrl])
theorem Kq.wide {B : Nat} {L M : List Nat} {w w' : World} (h : Kq B L w w') (hl : ∀ k, k ∈ L → k ∈ M) : Kq B M w w' := ⟨h.below, fun k hk hn => h.other k hk fun e => hn (hl k e)⟩
/-- A call of a device. -/
theorem XAt.dev0 {w w' : World} {B x g0 g1 : Nat} {S : XrS} (h : XAt w B x g0 g1 S) (hd : DAt w' B g0) (k : Kq B [g0] w w') : XAt w' B x g0 g1 S ∧ Kq B (xrl x g0 g1) w w' := by
  have hgx : x ≠ g0 := fun e => by
    obtain ⟨_, n, s, b, hg0, _⟩ := h.d0
    rw [← e, h.row] at hg0
    injection hg0 with hg0
    injection hg0 with _ q
    exact absurd q (by decide)
  exact ⟨⟨(k.other x h.lt (by simpa using hgx)).trans h.row, h.bx, hd, h.d1.kq h.d0 k (Ne.symm h.ne), h.ne, h.ok⟩, k.wide (by simp [xrl])⟩
theorem XAt.dev1 {w w' : World} {B x g0 g1 : Nat} {S : XrS} (h : XAt w B x g0 g1 S) (hd : DAt w' B g1) (k : Kq B [g1] w w') : XAt w' B x g0 g1 S ∧ Kq B (xrl x g0 g1) w w' := by
  have hgx : x ≠ g1 := fun e => by
    obtain ⟨_, n, s, b, hg0, _⟩ := h.d1
    rw [← e, h.row] at hg0
    injection hg0 with hg0
    injection hg0 with _ q
    exact absurd q (by decide)
  exact ⟨⟨(k.other x h.lt (by simpa using hgx)).trans h.row, h.bx, h.d0.kq h.d1 k h.ne, hd, h.ne, h.ok⟩, k.wide (by simp [xrl])⟩
def lessN (n : Int) : Int := if 0 < n then IntKind.i64.wrap (n - 1) else 0
theorem lessN_zero {n : Int} (h : n ≤ 0) : lessN n = 0 := by unfold lessN; rw [if_neg (by omega)]
theorem less_any (n : Int) (w : World) : Calls Try.prog 56 #[.int .i64 n] w fun e w' => e = .returned (.int .i64 (lessN n)) ∧ w = w' := by
  unfold lessN
  by_cases h0 : 0 < n
  · rw [if_pos h0]
    obtain ⟨m, hm⟩ : ∃ m, IntKind.i64.wrap (n - 1) = m := ⟨_, rfl⟩
    rw [hm]
    go_enter Try.func56, Try.ntmps56
    go_wp2_with fail
    go_ret
    exact ⟨rfl, rfl⟩
  · rw [if_neg h0]
    go_enter Try.func56, Try.ntmps56
    go_wp2_with fail
    go_ret
    exact ⟨rfl, rfl⟩
end Go.Proofs.Ytjmginkkjkbpoaa
