/- Package slots: a slot, a table. -/
import Derived.Test.YthhgodfgigcacaaLib
import Derived.Test.YthhgodfgigcacaaLin
import Derived.Test.YthhgodfgigcacaaLinB
import Derived.Test.YthhgodfgigcacaaProg
import Derived.WalkKit
import Derived.WalkLawsBesides
import Derived.Handy
import Derived.RegionTactic
import Derived.Deep.QuietTactic
import Derived.Deep.RegionLaw
import Derived.BigQuiet
import Derived.OpenShut
import Derived.OwnWalk
import Derived.ProofKit
import Derived.Below
import Derived.Lib.Hide
import Derived.Deep.CutBlock
import Derived.DeepKeys
namespace Go.Proofs.Ythhgodfgigcacaa
open Go.RowKit Go.Deep
set_option linter.unusedVariables false
set_option linter.unusedSimpArgs false
structure Sl where
  g : Int
  v0 : Bool
  v1 : Bool
  v2 : Bool
  v3 : Bool
  d0 : Bool
  d1 : Bool
  d2 : Bool
  d3 : Bool
  l : Int
deriving DecidableEq
def slA (s : Sl) : Array Value := #[.int .i64 s.g, .bool s.v0, .bool s.v1, .bool s.v2, .bool s.v3, .bool s.d0, .bool s.d1, .bool s.d2, .bool s.d3, .int .i64 s.l]
theorem eqB4 (D : Nat) (a b c d a' b' c' d' : Bool) (w : World) : (Op.equalIn (D + 10) 42 (.agg #[.bool a, .bool b, .bool c, .bool d]) (.agg #[.bool a', .bool b', .bool c', .bool d'])).run Try.prog w = .ok (decide (a = a' ∧ b = b' ∧ c = c' ∧ d = d')) w := by
  obtain ⟨r, hr, hiff⟩ := run_equalIn_deep (P := Try.prog) D 10 42 (by kernel_rfl) w 10 10 (.agg #[.bool a, .bool b, .bool c, .bool d]) (.agg #[.bool a', .bool b', .bool c', .bool d']) [.bool a, .bool b, .bool c, .bool d] [.bool a', .bool b', .bool c', .bool d'] (by kernel_rfl) (by kernel_rfl) (by kernel_rfl) (by kernel_rfl)
  rw [hr]
  have h2 : r = true ↔ (a = a' ∧ b = b' ∧ c = c' ∧ d = d') := by rw [hiff]; simp
  congr 1
  cases r
  · exact (decide_eq_false (fun e => absurd (h2.2 e) (by simp))).symm
  · exact (decide_eq_true (h2.1 rfl)).symm
theorem fields_sl : (Try.prog.fieldsOf 44).toList.map (fun f => (f.type, f.offset, decide (f.name ≠ "_"))) = [(3, 0, true), (42, 1, true), (42, 5, true), (3, 9, true)] := by kernel_rfl
theorem size_b4 : ∀ w, (sizeOf 42).run Try.prog w = .ok 4 w := fun w => by kernel_rfl
theorem eqAt_slot (s t : Sl) (w : World) : (Op.equalIn 10000 44 (.agg (slA s)) (.agg (slA t))).run Try.prog w = .ok (decide (s = t)) w := by
  rw [show (10000 : Nat) = 9999 + 1 from rfl, run_equalIn_struct w _ _ _ _ (by kernel_rfl) (by kernel_rfl)]
  have hf := fields_sl
  generalize (Try.prog.fieldsOf 44).toList = fs at hf
  rcases fs with _ | ⟨f0, fs⟩
  · simp at hf
  rcases fs with _ | ⟨f1, fs⟩
  · simp at hf
  rcases fs with _ | ⟨f2, fs⟩
  · simp at hf
  rcases fs with _ | ⟨f3, fs⟩
  · simp at hf
  rcases fs with _ | ⟨f4, fs⟩
  rotate_left
  · simp at hf
  simp only [List.map_cons, List.map_nil, List.cons.injEq, Prod.mk.injEq, decide_eq_true_eq, and_true] at hf
  obtain ⟨⟨t0, o0, n0⟩, ⟨t1, o1, n1⟩, ⟨t2, o2, n2⟩, t3, o3, n3⟩ := hf
  have p0 : ∀ s : Sl, (part f0.type (slA s) f0.offset).run Try.prog w = .ok (.int .i64 s.g) w := fun s => by
    rw [t0, o0]; simp [part, isAgg, run_underlying Try.underlying3, slA]
  have p1 : ∀ s : Sl, (part f1.type (slA s) f1.offset).run Try.prog w = .ok (.agg #[.bool s.v0, .bool s.v1, .bool s.v2, .bool s.v3]) w := fun s => by
    rw [t1, o1]; simp [part, isAgg, run_underlying Try.underlying42, size_b4, slA]
  have p2 : ∀ s : Sl, (part f2.type (slA s) f2.offset).run Try.prog w = .ok (.agg #[.bool s.d0, .bool s.d1, .bool s.d2, .bool s.d3]) w := fun s => by
    rw [t2, o2]; simp [part, isAgg, run_underlying Try.underlying42, size_b4, slA]
  have p3 : ∀ s : Sl, (part f3.type (slA s) f3.offset).run Try.prog w = .ok (.int .i64 s.l) w := fun s => by
    rw [t3, o3]; simp [part, isAgg, run_underlying Try.underlying3, slA]
  have e0 : (Op.equalIn (9998 + 1) f0.type (.int .i64 s.g) (.int .i64 t.g)).run Try.prog w = .ok (s.g == t.g) w := by rw [t0]; exact run_equalIn_int w 9998 _ .i64 .i64 _ _ Try.underlying3
  have e1 := eqB4 9989 s.v0 s.v1 s.v2 s.v3 t.v0 t.v1 t.v2 t.v3 w
  have e2 := eqB4 9989 s.d0 s.d1 s.d2 s.d3 t.d0 t.d1 t.d2 t.d3 w
  rw [← t1] at e1
  rw [← t2] at e2
  have e3 : (Op.equalIn (9998 + 1) f3.type (.int .i64 s.l) (.int .i64 t.l)).run Try.prog w = .ok (s.l == t.l) w := by rw [t3]; exact run_equalIn_int w 9998 _ .i64 .i64 _ _ Try.underlying3
  have hfin : (decide (s = t)) = ((s.g == t.g) && (decide (s.v0 = t.v0 ∧ s.v1 = t.v1 ∧ s.v2 = t.v2 ∧ s.v3 = t.v3) && (decide (s.d0 = t.d0 ∧ s.d1 = t.d1 ∧ s.d2 = t.d2 ∧ s.d3 = t.d3) && (s.l == t.l)))) := by
    rw [Bool.eq_iff_iff]
    simp only [decide_eq_true_eq, Bool.and_eq_true, beq_iff_eq]
    cases s; cases t
    simp only [Sl.mk.injEq]
    constructor
    · rintro ⟨a, b, c, d, e, f, g, h, i, j⟩; exact ⟨a, ⟨b, c, d, e⟩, ⟨f, g, h, i⟩, j⟩
    · rintro ⟨a, ⟨b, c, d, e⟩, ⟨f, g, h, i⟩, j⟩; exact ⟨a, b, c, d, e, f, g, h, i, j⟩
  rw [hfin]
  simp only [Op.eqFields, if_pos n0, if_pos n1, if_pos n2, if_pos n3, Sem.run_bind, p0, e0, Result.andThen_ok]
  cases (s.g == t.g) with
  | false => simp
  | true =>
    simp only [Bool.not_true, Bool.false_eq_true, if_false, Sem.run_bind, p1, Result.andThen_ok, Bool.true_and]
    rw [show (9999 : Nat) = 9989 + 10 from rfl, e1]
    simp only [Result.andThen_ok]
    cases (decide (s.v0 = t.v0 ∧ s.v1 = t.v1 ∧ s.v2 = t.v2 ∧ s.v3 = t.v3)) with
    | false => simp
    | true =>
      simp only [Bool.not_true, Bool.false_eq_true, if_false, Sem.run_bind, p2, Result.andThen_ok, Bool.true_and, e2]
      cases (decide (s.d0 = t.d0 ∧ s.d1 = t.d1 ∧ s.d2 = t.d2 ∧ s.d3 = t.d3)) with
      | false => simp
      | true =>
        simp only [Bool.not_true, Bool.false_eq_true, if_false, Sem.run_bind, p3, Result.andThen_ok, Bool.true_and, e3]
        cases (s.l == t.l) <;> simp
theorem eql_slot (s t : Sl) (w : World) : (binOp .eql 44 (.agg (slA s)) (.agg (slA t))).run Try.prog w = .ok (.bool (decide (s = t))) w := by
  rw [run_eql_struct, eqAt_slot]; rfl
theorem neq_slot (s t : Sl) (w : World) : (binOp .neq 44 (.agg (slA s)) (.agg (slA t))).run Try.prog w = .ok (.bool (!decide (s = t))) w := by
  rw [run_neq_struct, eqAt_slot]; rfl
theorem eqg_slot : Try.prog.eqGuardType Try.prog.depth 44 = false := by kernel_rfl
theorem eqg_b4 : Try.prog.eqGuardType Try.prog.depth 42 = false := by kernel_rfl
/-- Has it a dirty place? -/
def Sl.busy (s : Sl) : Bool := s.d0 || s.d1 || s.d2 || s.d3
theorem neq_dirty (s : Sl) (w : World) : (binOp .neq 42 (.agg #[.bool s.d0, .bool s.d1, .bool s.d2, .bool s.d3]) (.agg #[.bool false, .bool false, .bool false, .bool false])).run Try.prog w = .ok (.bool s.busy) w := by
  rw [run_neq_struct, show (10000 : Nat) = 9990 + 10 from rfl, eqB4]
  unfold Sl.busy
  cases s.d0 <;> cases s.d1 <;> cases s.d2 <;> cases s.d3 <;> rfl
def frS : Sl := ⟨-1, false, false, false, false, false, false, false, false, 0⟩
def zeS : Sl := ⟨0, false, false, false, false, false, false, false, false, 0⟩
theorem frS_A : slA frS = #[.int .i64 (-1), .bool false, .bool false, .bool false, .bool false, .bool false, .bool false, .bool false, .bool false, .int .i64 0] := rfl
theorem zeS_A : slA zeS = #[.int .i64 0, .bool false, .bool false, .bool false, .bool false, .bool false, .bool false, .bool false, .bool false, .int .i64 0] := rfl
/-- The cell j of a slot. -/
def slC (s : Sl) (j : Nat) : Value := (slA s)[j]?.getD (.bool false)
def taC (n : Nat) (T : Nat → Sl) (j : Nat) : Value := if j = 0 then .int .i64 (n : Int) else slC (T ((j - 1) / 10)) ((j - 1) % 10)
/-- A table at block b. -/
def TAt (w : World) (b n : Nat) (T : Nat → Sl) : Prop := w.rowIs b 59 81 (taC n T)
theorem taC_at (n : Nat) (T : Nat → Sl) (k j : Nat) (hj : j < 10) : taC n T (1 + k * 10 + j) = slC (T k) j := by
  unfold taC
  rw [if_neg (by omega), show (1 + k * 10 + j - 1) / 10 = k by omega, show (1 + k * 10 + j - 1) % 10 = j by omega]
section
variable {w w' : World} {b n : Nat} {T : Nat → Sl}
theorem TAt.lt (h : TAt w b n T) : b < w.heap.size := World.rowIs.lt h
theorem TAt.below (h : TAt w b n T) (k : Below w.heap.size w w') : TAt w' b n T := World.rowIs.of_block h (k.block b h.lt)
theorem TAt.n0 (h : TAt w b n T) : w.cell? ⟨b, 0, none⟩ = some (.int .i64 (n : Int)) := World.rowIs.cell h (by omega)
theorem TAt.free (h : TAt w b n T) (j : Nat) : w.frozen? ⟨b, j, none⟩ = false := World.rowIs.frozen h j
theorem TAt.at_ (h : TAt w b n T) {k : Nat} (hk : k < 8) (j : Nat) (hj : j < 10) : w.cell? ⟨b, 1 + k * 10 + j, none⟩ = some (slC (T k) j) := by
  rw [← taC_at n T k j hj]
  exact World.rowIs.cell h (by omega)
theorem TAt.c0 (h : TAt w b n T) {k : Nat} (hk : k < 8) : w.cell? ⟨b, 1 + k * 10, none⟩ = some (.int .i64 (T k).g) := h.at_ hk 0 (by omega)
theorem TAt.cs (h : TAt w b n T) {k : Nat} (hk : k < 8) : w.cell? ⟨b, 1 + k * 10, none⟩ = some (.int .i64 (T k).g) ∧ w.cell? ⟨b, 1 + k * 10 + 1, none⟩ = some (.bool (T k).v0) ∧ w.cell? ⟨b, 1 + k * 10 + 2, none⟩ = some (.bool (T k).v1) ∧ w.cell? ⟨b, 1 + k * 10 + 3, none⟩ = some (.bool (T k).v2) ∧ w.cell? ⟨b, 1 + k * 10 + 4, none⟩ = some (.bool (T k).v3) ∧ w.cell? ⟨b, 1 + k * 10 + 5, none⟩ = some (.bool (T k).d0) ∧ w.cell? ⟨b, 1 + k * 10 + 6, none⟩ = some (.bool (T k).d1) ∧ w.cell? ⟨b, 1 + k * 10 + 7, none⟩ = some (.bool (T k).d2) ∧ w.cell? ⟨b, 1 + k * 10 + 8, none⟩ = some (.bool (T k).d3) ∧ w.cell? ⟨b, 1 + k * 10 + 9, none⟩ = some (.int .i64 (T k).l) :=
  ⟨h.at_ hk 0 (by omega), h.at_ hk 1 (by omega), h.at_ hk 2 (by omega), h.at_ hk 3 (by omega), h.at_ hk 4 (by omega), h.at_ hk 5 (by omega), h.at_ hk 6 (by omega), h.at_ hk 7 (by omega), h.at_ hk 8 (by omega), h.at_ hk 9 (by omega)⟩
end
end Go.Proofs.Ythhgodfgigcacaa
