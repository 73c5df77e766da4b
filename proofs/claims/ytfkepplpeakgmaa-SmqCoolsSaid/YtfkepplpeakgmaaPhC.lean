/- Contracts (cellaret): sums and products of floats, waves. -/
import Derived.Test.YtfkepplpeakgmaaPhB
import Derived.Deep.RegionHeld3
import Derived.Laws.Rows
import Derived.Laws.NewBlocks
namespace Go.Proofs.Ytfkepplpeakgmaa
open Go.RowKit
set_option linter.unusedVariables false
attribute [local go_sem] unary_negf

theorem run_store_complex {P : Program} {w : World} {a : Addr} {m : Mode} (k : FloatKind) (x y : Nat) : (store a (.complex k x y) m).run P w = stored P w a (.complex k x y) m := run_store P w a _ m rfl
theorem run_store_float {P : Program} {w : World} {a : Addr} {m : Mode} (k : FloatKind) (x : Nat) : (store a (.float k x) m).run P w = stored P w a (.float k x) m := run_store P w a _ m rfl
attribute [local go_sem] run_store_complex run_store_float
/-- What a sum, a product .. may be: the one answer there is, or some float that is no number. -/
def FAns (o : Option Nat) (r : Nat) : Prop := r < 18446744073709551616 ∧ ((o = some r) ∨ (o = none ∧ isNan r = true))
theorem FAns.lt {o : Option Nat} {r : Nat} (h : FAns o r) : r < 18446744073709551616 := h.1
theorem FAns.of {o : Option Nat} {r v : Nat} (h : FAns o r) (hv : o = some v) : r = v := by
  rcases h.2 with h | ⟨h, _⟩
  · rw [hv] at h; exact (Option.some.inj h).symm
  · rw [hv] at h; cases h
theorem FAns.congr {o : Option Nat} {r s : Nat} (h : FAns o r) (k : FAns o s) : sameF r s = true := by
  rcases h.2 with h | ⟨h, h'⟩
  · rw [k.of h]; exact sameF_self _
  · rcases k.2 with k | ⟨k, k'⟩
    · rw [h] at k; cases k
    · unfold sameF; simp [h', k']
theorem fbits_lt {op : BinOp} {a b r : Nat} (h : floatBits op .f64 a b = some r) : r < 18446744073709551616 := float_wf (floatBits_wf h)
theorem arith_run (op : BinOp) (t : TypeId) (a b : Nat) (w : World) (hop : op = .add ∨ op = .sub ∨ op = .mul ∨ op = .quo) : ∃ r d, FAns (floatBits op .f64 a b) r ∧ (binOp op t (.float .f64 a) (.float .f64 b)).run Try.prog w = .ok (.float .f64 r) (w.drewN d) := by
  cases h : floatBits op .f64 a b with
  | none =>
    obtain ⟨r, h1, h2, h3⟩ := arith_nan op t a b w hop h
    exact ⟨r, 1, ⟨h2, .inr ⟨rfl, h1⟩⟩, h3⟩
  | some r => exact ⟨r, 0, ⟨fbits_lt h, .inl rfl⟩, run_float_arith w op t .f64 a b r h⟩
def fadd (a b : Nat) : Option Nat := floatBits .add .f64 a b
def fmul (a b : Nat) : Option Nat := floatBits .mul .f64 a b
def fsub (a b : Nat) : Option Nat := floatBits .sub .f64 a b
theorem fadd_nan {a : Nat} (b : Nat) (h : isNan a = true) : fadd a b = none := by
  obtain ⟨s, t, h⟩ := read_nan h
  show ((Ieee.double.read a).sum _).map _ = none
  rw [h]; rfl
theorem fmul_nan {a : Nat} (b : Nat) (h : isNan a = true) : fmul a b = none := by
  obtain ⟨s, t, h⟩ := read_nan h
  show ((Ieee.double.read a).product _).map _ = none
  rw [h]; rfl
theorem same_cases {a b : Nat} (h : sameF a b = true) : a = b ∨ (isNan a = true ∧ isNan b = true) := by
  unfold sameF at h
  simpa using h
theorem fadd_congr {a a' b r r' : Nat} (h : sameF a a' = true) (k : FAns (fadd a b) r) (k' : FAns (fadd a' b) r') : sameF r r' = true := by
  rcases same_cases h with rfl | ⟨h1, h2⟩
  · exact k.congr k'
  · rw [fadd_nan b h1] at k
    rw [fadd_nan b h2] at k'
    exact k.congr k'
theorem fmul_congr {a a' b r r' : Nat} (h : sameF a a' = true) (k : FAns (fmul a b) r) (k' : FAns (fmul a' b) r') : sameF r r' = true := by
  rcases same_cases h with rfl | ⟨h1, h2⟩
  · exact k.congr k'
  · rw [fmul_nan b h1] at k
    rw [fmul_nan b h2] at k'
    exact k.congr k'
theorem sum_any (a b c d : Nat) (w : World) : Calls Try.prog 66 #[.complex .f64 a b, .complex .f64 c d] w fun e w' => ∃ r s n, e = .returned (.complex .f64 r s) ∧ FAns (fadd a c) r ∧ FAns (fadd b d) s ∧ w.drewN n = w' := by
  obtain ⟨r, d1, h, hrun⟩ := arith_run .add 92 a c w (by simp)
  obtain ⟨s, d2, h', hrun2⟩ := arith_run .add 92 b d (w.drewN d1) (by simp)
  have H := Lib.hid h
  have H' := Lib.hid h'
  clear h h'
  go_enter Try.func66, Try.ntmps66
  go_wp2
  go_ret
  exact ⟨r, s, d1 + d2, rfl, H.out, H'.out, by first | rfl | simp [World.drewN_drewN]⟩
theorem turn_exact (a b : Nat) (n : Int) (w : World) (q : Nat) (hq : n % 4 = (q : Int)) (hn : -9223372036854775808 ≤ n ∧ n ≤ 9223372036854775807) :
    Calls Try.prog 67 #[.complex .f64 a b, .int .i64 n] w fun e w' => e = .returned (.complex .f64 (turnF q (a, b)).1 (turnF q (a, b)).2) ∧ w.alloc (.cells #[.int .i64 q] 3) = w' := by
  have hq4 : q < 4 := by omega
  have HQ := Lib.hid (turner_any n w q hq hn)
  have HT := Lib.hid (turner1_any a b q w.heap.size (w.alloc (.cells #[.int .i64 q] 3)) hq4 (by simp))
  clear hq
  go_enter Try.func67, Try.ntmps67
  go_wp2_with fail
  refine HQ.out.mono ?_
  rintro e w1 ⟨rfl, rfl⟩
  go_wp2_with fail
  refine HT.out.mono ?_
  rintro e w1 ⟨rfl, rfl⟩
  go_wp2
  go_ret
  exact ⟨rfl, rfl⟩

/-- Sums of so many phases, one behind the other. -/
def Chain (zs : Nat → Nat × Nat) : Nat → Nat × Nat → Prop
  | 0, z => z = (0, 0)
  | t + 1, z => ∃ y, Chain zs t y ∧ FAns (fadd y.1 (zs t).1) z.1 ∧ FAns (fadd y.2 (zs t).2) z.2
theorem Chain.lt {zs : Nat → Nat × Nat} {t : Nat} {z : Nat × Nat} (h : Chain zs t z) : z.1 < 18446744073709551616 ∧ z.2 < 18446744073709551616 := by
  cases t with
  | zero => cases h; exact ⟨by decide, by decide⟩
  | succ t => obtain ⟨y, _, h1, h2⟩ := h; exact ⟨h1.lt, h2.lt⟩
theorem Chain.congr {zs : Nat → Nat × Nat} {t : Nat} {z z' : Nat × Nat} (h : Chain zs t z) (h' : Chain zs t z') : sameF z.1 z'.1 = true ∧ sameF z.2 z'.2 = true := by
  induction t generalizing z z' with
  | zero => cases h; cases h'; exact ⟨rfl, rfl⟩
  | succ t ih =>
    obtain ⟨y, h0, h1, h2⟩ := h
    obtain ⟨y', k0, k1, k2⟩ := h'
    obtain ⟨i1, i2⟩ := ih h0 k0
    exact ⟨fadd_congr i1 h1 k1, fadd_congr i2 h2 k2⟩
/-- By how many quarters. -/
def qrt (by_ : Int) (k t : Nat) : Nat := (by_ * k * t % 4).toNat
theorem qrt_eq (by_ : Int) (k t : Nat) : by_ * k * t % 4 = (qrt by_ k t : Int) := by unfold qrt; omega
def wave (x : Nat → Nat × Nat) (by_ : Int) (k t : Nat) : Nat × Nat := turnF (qrt by_ k t) (x t)
structure OutAt (w : World) (g : Nat) (F : Nat → Nat × Nat) : Prop where
  cells : ∀ k, k < 4 → w.cell? ⟨g, k, none⟩ = some (.complex .f64 (F k).1 (F k).2)
  free : ∀ k, k < 4 → w.frozen? ⟨g, k, none⟩ = false
  lt : g < w.heap.size
theorem OutAt.drewN {w : World} {g : Nat} {F : Nat → Nat × Nat} (h : OutAt w g F) (n : Nat) : OutAt (w.drewN n) g F := ⟨h.cells, h.free, h.lt⟩
theorem OutAt.drew {w : World} {g : Nat} {F : Nat → Nat × Nat} (h : OutAt w g F) : OutAt w.drew g F := ⟨h.cells, h.free, h.lt⟩
theorem OutAt.below {w w' : World} {g : Nat} {F : Nat → Nat × Nat} (h : OutAt w g F) (hb : Below w.heap.size w w') : OutAt w' g F :=
  ⟨fun k hk => (hb.cell (p := ⟨g, k, none⟩) h.lt).trans (h.cells k hk), fun k hk => (hb.frozen (p := ⟨g, k, none⟩) h.lt).trans (h.free k hk), Nat.lt_of_lt_of_le h.lt hb.size⟩
theorem OutAt.put {w : World} {g : Nat} {F : Nat → Nat × Nat} (h : OutAt w g F) (k : Nat) (hk : k < 4) (r s : Nat) : OutAt (w.setCell ⟨g, k, none⟩ (.complex .f64 r s)) g (fun j => if j = k then (r, s) else F j) := by
  refine ⟨fun j hj => ?_, fun j hj => by rw [World.frozen?_setCell]; exact h.free j hj, by simpa [World.setCell] using h.lt⟩
  by_cases e : j = k
  · subst e
    simp only [if_true]
    exact World.cell?_setCell_same _ _ _ (h.cells j hj)
  · simp only [if_neg e]
    rw [World.cell?_setCell_other _ _ _ _ (by intro e'; simp only [Addr.mk.injEq] at e'; omega)]
    exact h.cells j hj
theorem k4 {k : Nat} (h : k < 4) : k = 0 ∨ k = 1 ∨ k = 2 ∨ k = 3 := by omega
theorem index4c (x : Nat → Nat × Nat) (i : Nat) (hi : i < 4) (w : World) : (Instr.index 89 (.agg #[.complex .f64 (x 0).1 (x 0).2, .complex .f64 (x 1).1 (x 1).2, .complex .f64 (x 2).1 (x 2).2, .complex .f64 (x 3).1 (x 3).2]) (.int .i64 (i : Int))).run Try.prog w = .ok (.complex .f64 (x i).1 (x i).2) w := by
  have h0 : ∀ (a b c d : Nat × Nat) w, (Instr.index 89 (.agg #[.complex .f64 a.1 a.2, .complex .f64 b.1 b.2, .complex .f64 c.1 c.2, .complex .f64 d.1 d.2]) (.int .i64 0)).run Try.prog w = .ok (.complex .f64 a.1 a.2) w := fun _ _ _ _ _ => by kernel_rfl
  have h1 : ∀ (a b c d : Nat × Nat) w, (Instr.index 89 (.agg #[.complex .f64 a.1 a.2, .complex .f64 b.1 b.2, .complex .f64 c.1 c.2, .complex .f64 d.1 d.2]) (.int .i64 1)).run Try.prog w = .ok (.complex .f64 b.1 b.2) w := fun _ _ _ _ _ => by kernel_rfl
  have h2 : ∀ (a b c d : Nat × Nat) w, (Instr.index 89 (.agg #[.complex .f64 a.1 a.2, .complex .f64 b.1 b.2, .complex .f64 c.1 c.2, .complex .f64 d.1 d.2]) (.int .i64 2)).run Try.prog w = .ok (.complex .f64 c.1 c.2) w := fun _ _ _ _ _ => by kernel_rfl
  have h3 : ∀ (a b c d : Nat × Nat) w, (Instr.index 89 (.agg #[.complex .f64 a.1 a.2, .complex .f64 b.1 b.2, .complex .f64 c.1 c.2, .complex .f64 d.1 d.2]) (.int .i64 3)).run Try.prog w = .ok (.complex .f64 d.1 d.2) w := fun _ _ _ _ _ => by kernel_rfl
  rcases k4 hi with rfl | rfl | rfl | rfl
  · exact h0 _ _ _ _ w
  · exact h1 _ _ _ _ w
  · exact h2 _ _ _ _ w
  · exact h3 _ _ _ _ w
end Go.Proofs.Ytfkepplpeakgmaa
