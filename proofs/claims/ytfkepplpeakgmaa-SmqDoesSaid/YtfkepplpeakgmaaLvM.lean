/- Package level: length, Len, Least. -/
import Derived.Test.YtfkepplpeakgmaaLvL
namespace Go.Proofs.Ytfkepplpeakgmaa
open Go.RowKit Go.Deep
set_option linter.unusedVariables false
set_option linter.unusedSimpArgs false
set_option maxRecDepth 100000 in
theorem length_any (g n : Nat) (R : Nat → List Nat) (l : Int) (w : World) (h : QR w g n R) : Calls Try.prog 60 #[.pointer (some ⟨g, 0, none⟩), .int .i64 l] w fun e w' => e = .returned (.int .i64 ((rowL R l).length : Int)) ∧ Below w.heap.size w w' := by
  have PL := Lib.hid (list_any g n R l w h)
  clear h
  generalize rowL R l = L at *
  obtain ⟨z, hz⟩ : ∃ z, L.length = z := ⟨_, rfl⟩
  rw [hz] at PL ⊢
  clear hz
  go_enter Try.func60, Try.ntmps60
  go_wp2_with fail
  refine PL.out.mono ?_
  rintro e w' ⟨v, base, rfl, _, ho, b⟩
  obtain ⟨a, c, rfl⟩ := own_slD ho
  have HB := Lib.hid b
  clear ho b
  go_wp2_with fail
  go_ret
  exact ⟨rfl, HB.out⟩
theorem QR.below {w w' : World} {g n : Nat} {R : Nat → List Nat} (h : QR w g n R) (b : Below w.heap.size w w') : QR w' g n R := by
  obtain ⟨F, hQ, hO⟩ := h
  exact ⟨F, hQ.below b, hO⟩
theorem QR.len {w : World} {g n : Nat} {R : Nat → List Nat} (h : QR w g n R) {l : Nat} (hl : l < 4) : (R l).length ≤ 16 := by
  obtain ⟨F, hQ, hO⟩ := h
  have := hO.n16
  exact nodup_le (hO.row l hl).nd 16 fun x hx => by have := hO.lt l hl x hx; omega
/-- How many things lie on the first k levels. -/
def lenS (R : Nat → List Nat) : Nat → Nat
  | 0 => 0
  | k + 1 => lenS R k + (R k).length
theorem lenS_le {w : World} {g n : Nat} {R : Nat → List Nat} (h : QR w g n R) (k : Nat) (hk : k ≤ 4) : lenS R k ≤ 16 * k := by
  induction k with
  | zero => exact Nat.le_refl _
  | succ k ih =>
    have := ih (by omega)
    have := h.len (l := k) (by omega)
    show lenS R k + (R k).length ≤ _
    omega
/-- The first thing of the lowest level. -/
def lesA (R : Nat → List Nat) : Value := if R 0 ≠ [] then froA R 0 else if R 1 ≠ [] then froA R 1 else if R 2 ≠ [] then froA R 2 else if R 3 ≠ [] then froA R 3 else .tuple #[.int .i64 0, .bool false]
theorem lesA_at {R : Nat → List Nat} {k : Nat} (hk : k < 4) (h0 : ∀ m, m < k → R m = []) (h : R k ≠ []) : lesA R = froA R (k : Int) := by
  unfold lesA
  rcases (show k = 0 ∨ k = 1 ∨ k = 2 ∨ k = 3 by omega) with rfl | rfl | rfl | rfl
  · rw [if_pos h]; rfl
  · rw [if_neg (fun e => e (h0 0 (by omega))), if_pos h]; rfl
  · rw [if_neg (fun e => e (h0 0 (by omega))), if_neg (fun e => e (h0 1 (by omega))), if_pos h]; rfl
  · rw [if_neg (fun e => e (h0 0 (by omega))), if_neg (fun e => e (h0 1 (by omega))), if_neg (fun e => e (h0 2 (by omega))), if_pos h]; rfl
theorem lesA_no {R : Nat → List Nat} (h0 : ∀ m, m < 4 → R m = []) : lesA R = .tuple #[.int .i64 0, .bool false] := by
  unfold lesA
  rw [if_neg (fun e => e (h0 0 (by omega))), if_neg (fun e => e (h0 1 (by omega))), if_neg (fun e => e (h0 2 (by omega))), if_neg (fun e => e (h0 3 (by omega)))]
end Go.Proofs.Ytfkepplpeakgmaa
