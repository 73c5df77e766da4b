/- Level: what a law starts with: the rows of calls that came in; two queues. -/
import Derived.Test.YtdoeaepfjdjmmaaLwG
import Derived.Test.YtdoeaepfjdjmmaaOpen
namespace Go.Proofs.Ytdoeaepfjdjmmaa
open Go.RowKit Go.Deep Go.ChangeShapes Go.WideShapes
set_option linter.unusedVariables false
set_option linter.unusedSimpArgs false
theorem bq_start {B g n : Nat} {w : World} (q : QR w g n (fun _ => [])) (hg : B ≤ g) (hB : B ≤ w.heap.size) : Bq B (w.alloc (.cells #[.slice none 0 0, .slice none 0 0, .slice none 0 0, .slice none 0 0] 32)) g w.heap.size n (fun _ => []) (fun _ => []) := by
  have hlt : g < w.heap.size := by obtain ⟨F, hQ, _⟩ := q; exact hQ.lt
  refine ⟨q.below ((Below.refl _ _).alloc (Nat.le_refl _) _), ⟨hB, fun _ => .slice none 0 0, ?_, fun l hl => World.ownsRow_nil _ _ _ _⟩, by omega, hg, RowsOk.nil n⟩
  exact World.rowIs_alloc w #[.slice none 0 0, .slice none 0 0, .slice none 0 0, .slice none 0 0] 32 (fun _ => .slice none 0 0) (fun i hi => by
    rcases (show i = 0 ∨ i = 1 ∨ i = 2 ∨ i = 3 by simp at hi; omega) with rfl | rfl | rfl | rfl <;> rfl)
/-- A slice of calls. -/
def ActRow (w : World) (ao : Option Addr) (len : Nat) : Prop :=
  0 < len → ∃ b off, ao = some ⟨b, off, none⟩ ∧ b < w.heap.size ∧ ∀ i, i < len → ∃ k t m : Int, -9223372036854775808 ≤ m ∧ m ≤ 9223372036854775807 ∧ w.cell? ⟨b, off + i * 3, none⟩ = some (.int .i64 k) ∧ w.cell? ⟨b, off + i * 3 + 1, none⟩ = some (.int .i64 t) ∧ w.cell? ⟨b, off + i * 3 + 2, none⟩ = some (.int .i64 m)
theorem ActRow.below {w w' : World} {ao : Option Addr} {len : Nat} (h : ActRow w ao len) (k : Below w.heap.size w w') : ActRow w' ao len := fun hp => by
  obtain ⟨b, off, h1, h2, h3⟩ := h hp
  refine ⟨b, off, h1, Nat.lt_of_lt_of_le h2 k.size, fun i hi => ?_⟩
  obtain ⟨x, t, m, m1, m2, c0, c1, c2⟩ := h3 i hi
  exact ⟨x, t, m, m1, m2, (k.cell (p := ⟨b, off + i * 3, none⟩) h2).trans c0, (k.cell (p := ⟨b, off + i * 3 + 1, none⟩) h2).trans c1, (k.cell (p := ⟨b, off + i * 3 + 2, none⟩) h2).trans c2⟩
theorem i64_in {a : Int} (h : (Lit.int .i64 a).wf = true) : -9223372036854775808 ≤ a ∧ a ≤ 9223372036854775807 := by
  have : decide (-9223372036854775808 ≤ a) && decide (a ≤ 9223372036854775807) := h
  simpa using this
section
variable {H : Type} {enc : TypeId × Value → H}
theorem act_fields24 : ∃ f0 f1 f2, Try.prog.underlying 35 = some (.struct #[f0, f1, f2]) ∧ oneCellFields Try.prog #[f0, f1, f2] = true ∧ f0.type = 3 ∧ f1.type = 3 ∧ f2.type = 3 := ⟨_, _, _, Try.underlying35, by kernel_rfl, rfl, rfl, rfl⟩
theorem open_acts24 {w : World} {v : Value} {d : DataW H} {p : List MemPlace} (hok : ∃ a len cap, v = .slice a len cap) (h : DataW.Trod enc Try.prog w 0 (fun _ => true) true 22 v d p) :
    ∃ ao len cap, v = .slice ao len cap ∧ len ≤ maxLen ∧ ActRow w ao len := by
  obtain ⟨f0, f1, f2, hs, hone, t0, t1, t2⟩ := act_fields24
  obtain ⟨ao, len, cap, rfl, hl, hrow⟩ := open_structs Try.underlying22 hs hone (by kernel_rfl) (by simp) h hok
  refine ⟨ao, len, cap, rfl, hl, fun hp => ?_⟩
  obtain ⟨b, off, ho, hb, hi⟩ := hrow hp
  refine ⟨b, off, ho, hb, fun i hil => ?_⟩
  obtain ⟨n, hn⟩ := hi i hil
  obtain ⟨v0, y0, c0, h0⟩ := hn 0 f0 rfl
  obtain ⟨v1, y1, c1, h1⟩ := hn 1 f1 rfl
  obtain ⟨v2, y2, c2, h2⟩ := hn 2 f2 rfl
  rw [t0] at h0
  rw [t1] at h1
  rw [t2] at h2
  obtain ⟨K, rfl, _⟩ := field_int Try.underlying3 h0
  obtain ⟨N, rfl, _⟩ := field_int Try.underlying3 h1
  obtain ⟨M, rfl, hM⟩ := field_int Try.underlying3 h2
  exact ⟨K, N, M, (i64_in hM).1, (i64_in hM).2, by simpa using c0, by simpa [Nat.add_assoc] using c1, by simpa [Nat.add_assoc] using c2⟩
end
end Go.Proofs.Ytdoeaepfjdjmmaa
