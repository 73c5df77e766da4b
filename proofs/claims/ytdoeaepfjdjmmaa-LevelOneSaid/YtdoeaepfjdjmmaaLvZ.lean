/- Both queues: what a call of the law's do holds. -/
import Derived.Test.YtdoeaepfjdjmmaaLvY
import Derived.Test.YtdoeaepfjdjmmaaLvT
namespace Go.Proofs.Ytdoeaepfjdjmmaa
open Go.RowKit Go.Deep
set_option linter.unusedVariables false
set_option linter.unusedSimpArgs false
theorem XqAt.kq {B h g : Nat} {w w' : World} {X : Nat → List Nat} {F : Nat → Int} (hX : XqAt w B h X) (k : Kq B [g] w w') (hne : g ≠ h) (hg : QAt w g F) : XqAt w' B h X := by
  obtain ⟨hB, s, hs, ho⟩ := hX
  refine ⟨hB, s, World.rowIs.of_block hs (k.other h (World.rowIs.lt hs) (by simpa using fun e => hne e.symm)), fun l hl => ?_⟩
  have hu := ho l hl
  refine ⟨hu.1, ?_⟩
  rcases hu.2 with hh | ⟨g2, cap, cur, e, q1, q2, q3⟩
  · exact Or.inl hh
  · refine Or.inr ⟨g2, cap, cur, e, q1, ?_, q3⟩
    refine k.row (by
      intro hm
      have e' : g2 = g := by simpa using hm
      subst e'
      obtain ⟨c, hb, _, _⟩ := hg
      rw [hb] at q2
      injection q2 with q2
      injection q2 with _ t
      exact absurd t (by decide)) q2
structure Bq (B : Nat) (w : World) (g h n : Nat) (R X : Nat → List Nat) : Prop where
  q : QR w g n R
  x : XqAt w B h X
  ne : g ≠ h
  bg : B ≤ g
  ok : RowsOk n X
section
variable {B g h n : Nat} {w0 w w' : World} {R R' X X' : Nat → List Nat}
theorem Bq.n16 (b : Bq B w g h n R X) : n ≤ 16 := by obtain ⟨F, _, hO⟩ := b.q; exact hO.n16
theorem Bq.glt (b : Bq B w g h n R X) : g < w.heap.size := by obtain ⟨F, hQ, _⟩ := b.q; exact hQ.lt
theorem Bq.hlt (b : Bq B w g h n R X) : h < w.heap.size := by obtain ⟨_, s, hs, _⟩ := b.x; exact World.rowIs.lt hs
theorem Bq.bw (b : Bq B w g h n R X) : B ≤ w.heap.size := Nat.le_of_lt (Nat.lt_of_le_of_lt b.bg b.glt)
theorem Bq.bh (b : Bq B w g h n R X) : B ≤ h := b.x.1
theorem Bq.below (b : Bq B w g h n R X) (k : Below w.heap.size w w') : Bq B w' g h n R X := ⟨b.q.below k, b.x.below k, b.ne, b.bg, b.ok⟩
theorem Bq.doq (b : Bq B w g h n R X) (q : QR w' g n R') (k : Kq B [g] w w') : Bq B w' g h n R' X := by
  obtain ⟨F, hQ, _⟩ := b.q
  exact ⟨q, b.x.kq k b.ne hQ, b.ne, b.bg, b.ok⟩
theorem Bq.dox (b : Bq B w g h n R X) (x : XqAt w' B h X') (k : Kq B [h] w w') (ok : RowsOk n X') : Bq B w' g h n R X' := by
  obtain ⟨F, hQ, hO⟩ := b.q
  exact ⟨⟨F, hQ.block (k.other g hQ.lt (by simpa using b.ne)), hO⟩, x, b.ne, b.bg, ok⟩
end
theorem Kq.l2 {B g h : Nat} {w w' : World} (k : Kq B [g] w w') : Kq B [g, h] w w' := ⟨k.below, fun i hi hn => k.other i hi (by simp at hn ⊢; exact hn.1)⟩
theorem Kq.r2 {B g h : Nat} {w w' : World} (k : Kq B [h] w w') : Kq B [g, h] w w' := ⟨k.below, fun i hi hn => k.other i hi (by simp at hn ⊢; exact hn.2)⟩
/-- Both queues and the act's own row. -/
structure Aq (B : Nat) (w0 w : World) (g h n : Nat) (R X : Nat → List Nat) (a : Nat) (A : Array Value) : Prop where
  b : Bq B w g h n R X
  row : w.heap[a]? = some (.cells A 35 (0, 0))
  ag : a ≠ g
  ah : a ≠ h
  k : Kq B [g, h] w0 w
theorem aq_start {B g h n : Nat} {w : World} {R X : Nat → List Nat} (b : Bq B w g h n R X) (A : Array Value) : ∃ w1 a, Hid (w.alloc (.cells A 35) = w1) ∧ Hid (w.heap.size = a) ∧ Hid (Aq B w w1 g h n R X a A) :=
  ⟨_, _, Lib.hid rfl, Lib.hid rfl, Lib.hid ⟨b.below ((Below.refl _ _).alloc (Nat.le_refl _) _), heap_alloc_new _ _, by have := b.glt; omega, by have := b.hlt; omega, Kq.of_below ((Below.refl _ _).alloc (Nat.le_refl _) _) b.bw⟩⟩
theorem row_cell {w : World} {a : Nat} {A : Array Value} {t : TypeId} {z : Nat × Nat} (h : w.heap[a]? = some (.cells A t z)) (j : Nat) (v : Value) (e : A[j]? = some v) : w.cell? ⟨a, j, none⟩ = some v := by
  unfold World.cell?
  simp [h, e]
/-- The rows behind an act. -/
def actR (n : Nat) (R : Nat → List Nat) (k i m : Int) : Nat → List Nat :=
  if k = 0 ∨ k = 1 ∨ k = 2 then (if addA R n i m = 0 then put R i.toNat m.toNat else R)
  else if k = 3 then (if misA R n i = 0 then rem R i.toNat else R)
  else if k = 4 then (if misA R n i = 0 then movA R i.toNat 0 else R)
  else if k = 5 ∨ k = 6 then (if misA R n i = 0 then movA R i.toNat m else R)
  else if k = 7 then balR R m 3
  else R
section
variable {B g h n a : Nat} {w0 w w' : World} {R R' X X' : Nat → List Nat} {A : Array Value}
theorem Aq.cell (q : Aq B w0 w g h n R X a A) (j : Nat) (v : Value) (e : A[j]? = some v) : w.cell? ⟨a, j, none⟩ = some v := row_cell q.row j v e
theorem Aq.lt (q : Aq B w0 w g h n R X a A) : a < w.heap.size := (Array.getElem?_eq_some_iff.1 q.row).1
theorem Aq.below (q : Aq B w0 w g h n R X a A) (k : Below w.heap.size w w') : Aq B w0 w' g h n R X a A := ⟨q.b.below k, (k.block _ q.lt).trans q.row, q.ag, q.ah, q.k.trans (Kq.of_below k q.b.bw)⟩
theorem Aq.doq (q : Aq B w0 w g h n R X a A) (c : QR w' g n R') (k : Kq B [g] w w') : Aq B w0 w' g h n R' X a A := ⟨q.b.doq c k, k.row (by simpa using q.ag) q.row, q.ag, q.ah, q.k.trans k.l2⟩
theorem Aq.dox (q : Aq B w0 w g h n R X a A) (c : XqAt w' B h X') (k : Kq B [h] w w') (ok : RowsOk n X') : Aq B w0 w' g h n R X' a A := ⟨q.b.dox c k ok, k.row (by simpa using q.ah) q.row, q.ag, q.ah, q.k.trans k.r2⟩
theorem Aq.len (q : Aq B w0 w g h n R X a A) : ∀ l, l < 4 → (X l).length ≤ 16 := q.b.ok.len q.b.n16
theorem Aq.add (q : Aq B w0 w g h n R X a A) (i l : Int) : Calls Try.prog 18 #[.pointer (some ⟨g, 0, none⟩), .int .i64 i, .int .i64 l] w fun e w' => e = .returned (.int .i64 (addA R n i l)) ∧ Aq B w0 w' g h n (if addA R n i l = 0 then put R i.toNat l.toNat else R) X a A :=
  (add_any B g n R i l w q.b.q q.b.bg).mono fun e w' ⟨h1, h2, h3⟩ => ⟨h1, q.doq h2 h3⟩
theorem Aq.remove (q : Aq B w0 w g h n R X a A) (i : Int) : Calls Try.prog 19 #[.pointer (some ⟨g, 0, none⟩), .int .i64 i] w fun e w' => e = .returned (.int .i64 (misA R n i)) ∧ Aq B w0 w' g h n (if misA R n i = 0 then rem R i.toNat else R) X a A :=
  (remove_any B g n R i w q.b.q q.b.bg).mono fun e w' ⟨h1, h2, h3⟩ => ⟨h1, q.doq h2 h3⟩
theorem Aq.touch (q : Aq B w0 w g h n R X a A) (i : Int) : Calls Try.prog 20 #[.pointer (some ⟨g, 0, none⟩), .int .i64 i] w fun e w' => e = .returned (.int .i64 (misA R n i)) ∧ Aq B w0 w' g h n (if misA R n i = 0 then movA R i.toNat 0 else R) X a A :=
  (touch_any B g n R i w q.b.q q.b.bg).mono fun e w' ⟨h1, h2, h3⟩ => ⟨h1, q.doq h2 h3⟩
theorem Aq.move (q : Aq B w0 w g h n R X a A) (i m : Int) : Calls Try.prog 21 #[.pointer (some ⟨g, 0, none⟩), .int .i64 i, .int .i64 m] w fun e w' => e = .returned (.int .i64 (misA R n i)) ∧ Aq B w0 w' g h n (if misA R n i = 0 then movA R i.toNat m else R) X a A :=
  (move_any B g n R i m w q.b.q q.b.bg).mono fun e w' ⟨h1, h2, h3⟩ => ⟨h1, q.doq h2 h3⟩
theorem Aq.balance (q : Aq B w0 w g h n R X a A) (m : Int) (hm : m ≤ 9223372036854775807) : Calls Try.prog 14 #[.pointer (some ⟨g, 0, none⟩), .int .i64 m] w fun e w' => e = .returned (.int .i64 (balN R m 3 : Int)) ∧ Aq B w0 w' g h n (balR R m 3) X a A :=
  (balance_any B g n R m w q.b.q q.b.bg hm).mono fun e w' ⟨h1, h2, h3⟩ => ⟨h1, q.doq h2 h3⟩
theorem Aq.where_ (q : Aq B w0 w g h n R X a A) (i : Nat) : Calls Try.prog 23 #[.pointer (some ⟨h, 0, none⟩), .int .i64 (i : Int)] w fun e w' => e = .returned (.int .i64 (lvl X i)) ∧ w = w' :=
  where_any B h i X w q.b.x q.len
theorem Aq.rput (q : Aq B w0 w g h n R X a A) (i l : Nat) (hi : i < n) (hl : l < 4) : Calls Try.prog 24 #[.pointer (some ⟨h, 0, none⟩), .int .i64 (i : Int), .int .i64 (l : Int)] w fun e w' => e = .returned (.tuple #[]) ∧ Aq B w0 w' g h n R (put X i l) a A :=
  (rput_any B h i l X w q.b.x q.b.bw q.len hl).mono fun e w' ⟨h1, h2, h3⟩ => ⟨h1, q.dox h2 h3 (q.b.ok.put l hi)⟩
theorem Aq.rremove (q : Aq B w0 w g h n R X a A) (i : Nat) : Calls Try.prog 25 #[.pointer (some ⟨h, 0, none⟩), .int .i64 (i : Int)] w fun e w' => e = .returned (.tuple #[]) ∧ Aq B w0 w' g h n R (rem X i) a A :=
  (rremove_any B h i X w q.b.x q.b.bw q.len).mono fun e w' ⟨h1, h2, h3⟩ => ⟨h1, q.dox (h2.congr (rem4 X i)) h3 (q.b.ok.rem i)⟩
theorem Aq.rmove (q : Aq B w0 w g h n R X a A) (i : Nat) (m : Int) (hi : i < n) (hv : lvl X i ≠ -1) (hb1 : -9223372036854775808 ≤ m) (hb2 : m ≤ 9223372036854775807) : Calls Try.prog 26 #[.pointer (some ⟨h, 0, none⟩), .int .i64 (i : Int), .int .i64 m] w fun e w' => e = .returned (.tuple #[]) ∧ Aq B w0 w' g h n R (movA X i m) a A :=
  (rmove_any B h i m X w q.b.x q.b.bw q.len hv hb1 hb2).mono fun e w' ⟨h1, h2, h3⟩ => ⟨h1, q.dox h2 h3 (q.b.ok.movA m hi)⟩
theorem Aq.rbalance (q : Aq B w0 w g h n R X a A) (m : Int) (hm : m ≤ 9223372036854775807) : Calls Try.prog 27 #[.pointer (some ⟨h, 0, none⟩), .int .i64 m] w fun e w' => e = .returned (.int .i64 (balN X m 3 : Int)) ∧ Aq B w0 w' g h n R (balR X m 3) a A :=
  (rbalance_any B h n m X w q.b.x q.b.bw q.b.n16 q.b.ok hm).mono fun e w' ⟨h1, h2, h3⟩ => ⟨h1, q.dox h2 h3 (q.b.ok.balR m 3 (by omega))⟩
theorem Aq.level (q : Aq B w0 w g h n R X a A) (i : Int) : Calls Try.prog 12 #[.pointer (some ⟨g, 0, none⟩), .int .i64 i] w fun e w' => e = .returned (if misA R n i = 0 then .tuple #[.int .i64 (lvl R i.toNat), .bool true] else .tuple #[.int .i64 0, .bool false]) ∧ w = w' :=
  level_any g n R i w q.b.q
/-- What the law's do answers. -/
def DoP (B g h n : Nat) (w0 : World) (R X : Nat → List Nat) (k i m : Int) (e : Ending) (w' : World) : Prop := ∃ b, e = .returned (.bool b) ∧ (R = X → b = true) ∧ Bq B w' g h n (actR n R k i m) (actR n X k i m) ∧ Kq B [g, h] w0 w'
theorem Aq.fin {R0 X0 : Nat → List Nat} {k i m : Int} (q : Aq B w0 w g h n R X a A) (b : Bool) (hb : R0 = X0 → b = true) (hR : R = actR n R0 k i m) (hX : X = actR n X0 k i m) : DoP B g h n w0 R0 X0 k i m (.returned (.bool b)) w := ⟨b, rfl, hb, by rw [← hR, ← hX]; exact q.b, q.k⟩
end
end Go.Proofs.Ytdoeaepfjdjmmaa
