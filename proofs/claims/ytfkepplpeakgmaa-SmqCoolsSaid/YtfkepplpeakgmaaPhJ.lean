/- Contracts (cellaret): counts that may be, the reference's spectrum, a spectrum's way back. -/
import Derived.Test.YtfkepplpeakgmaaPhI
namespace Go.Proofs.Ytfkepplpeakgmaa
open Go.RowKit
set_option linter.unusedVariables false
attribute [local go_sem] unary_negf run_store_complex run_store_float
attribute [local go_sem ↓] Go.wp_at_zero Go.wp_at_succ

structure IntAt (w : World) (g : Nat) (f : Nat → Int) : Prop where
  cells : ∀ k, k < 4 → w.cell? ⟨g, k, none⟩ = some (.int .i64 (f k))
  lt : g < w.heap.size
theorem IntAt.below {w w' : World} {g : Nat} {f : Nat → Int} (h : IntAt w g f) (hb : Below w.heap.size w w') : IntAt w' g f :=
  ⟨fun k hk => (hb.cell (p := ⟨g, k, none⟩) h.lt).trans (h.cells k hk), Nat.lt_of_lt_of_le h.lt hb.size⟩
theorem IntAt.congr {w : World} {g : Nat} {f h : Nat → Int} (H : IntAt w g f) (e : ∀ k, k < 4 → f k = h k) : IntAt w g h := ⟨fun k hk => by rw [H.cells k hk, e k hk], H.lt⟩
theorem S0 (l : Nat → Int) : SAl l 0 = l 0 + l 1 + l 2 + l 3 ∧ SAl l 1 = l 0 - l 2 ∧ SAl l 2 = l 0 - l 1 + l 2 - l 3 ∧ SAl l 3 = l 0 - l 2 ∧ SBl l 0 = 0 ∧ SBl l 1 = l 3 - l 1 ∧ SBl l 2 = 0 ∧ SBl l 3 = l 1 - l 3 := by
  simp [SAl, SBl, SA, SB, sumI, qrt, turnI]
  omega
set_option maxHeartbeats 1000000 in
theorem rspec_any (l : Nat → Int) (w : World) (hl : ∀ t, t < 4 → 0 ≤ l t ∧ l t ≤ 1048576) :
    Calls Try.prog 56 #[.agg #[.int .i64 (l 0), .int .i64 (l 1), .int .i64 (l 2), .int .i64 (l 3)]] w fun e w' =>
      ∃ g1 g2, e = .returned (.tuple #[.slice (some ⟨g1, 0, none⟩) 4 4, .slice (some ⟨g2, 0, none⟩) 4 4]) ∧ IntAt w' g1 (SAl l) ∧ IntAt w' g2 (SBl l) ∧ Below w.heap.size w w' := by
  obtain ⟨a0, b0⟩ := hl 0 (by omega)
  obtain ⟨a1, b1⟩ := hl 1 (by omega)
  obtain ⟨a2, b2⟩ := hl 2 (by omega)
  obtain ⟨a3, b3⟩ := hl 3 (by omega)
  have HS := Lib.hid (S0 l)
  clear hl
  have HW : Hid (∀ x0 x1 x2 x3 y0 y1 y2 y3 : Int, x0 = SAl l 0 → x1 = SAl l 1 → x2 = SAl l 2 → x3 = SAl l 3 → y0 = SBl l 0 → y1 = SBl l 1 → y2 = SBl l 2 → y3 = SBl l 3 → ∀ (w1 w3 : World), ((w1.alloc (.cells #[.int .i64 x0, .int .i64 x1, .int .i64 x2, .int .i64 x3] 3)).alloc (.cells #[.int .i64 y0, .int .i64 y1, .int .i64 y2, .int .i64 y3] 3)) = w3 → IntAt w3 w1.heap.size (SAl l) ∧ IntAt w3 (w1.heap.size + 1) (SBl l)) := Lib.hid (by
    rintro x0 x1 x2 x3 y0 y1 y2 y3 rfl rfl rfl rfl rfl rfl rfl rfl w1 w3 rfl
    refine ⟨⟨fun k hk => ?_, by simp; omega⟩, ⟨fun k hk => ?_, by simp⟩⟩
    all_goals (rcases k4 hk with rfl | rfl | rfl | rfl <;> simp [go_sem]))
  generalize l 0 = m0 at *
  generalize l 1 = m1 at *
  generalize l 2 = m2 at *
  generalize l 3 = m3 at *
  go_enter Try.func56, Try.ntmps56
  go_wp2
  go_ret2
  obtain ⟨s0, s1, s2, s3, t0, t1, t2, t3⟩ := HS.out
  have := HW.out _ _ _ _ _ _ _ _ s0.symm s1.symm s2.symm s3.symm t0.symm t1.symm t2.symm t3.symm (w.alloc (.cells #[.int .i64 m0, .int .i64 m1, .int .i64 m2, .int .i64 m3] 49)) _ rfl
  have e : (w.alloc (.cells #[.int .i64 m0, .int .i64 m1, .int .i64 m2, .int .i64 m3] 49)).heap.size = w.heap.size + 1 := by simp
  rw [e] at this
  exact ⟨_, _, rfl, this.1, this.2, (((Below.refl _ _).alloc (Nat.le_refl _) _).alloc (by simp) _).alloc (by simp; omega) _⟩
/-- Four numbers times a quarter. -/
def Quart (z r : Nat × Nat) : Prop := FAns (fmul z.1 4598175219545276416) r.1 ∧ FAns (fmul z.2 4598175219545276416) r.2
def mixF (G F : Nat → Nat × Nat) (k j : Nat) : Nat × Nat := if j < k then G j else F j
end Go.Proofs.Ytfkepplpeakgmaa
