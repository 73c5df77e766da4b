/- Package level: Add, Remove, Move, Touch, Level by rows. -/
import Derived.Test.YtfkepplpeakgmaaLvE
namespace Go.Proofs.Ytfkepplpeakgmaa
open Go.RowKit Go.Deep
set_option linter.unusedVariables false
set_option linter.unusedSimpArgs false
/-- A thing's level, or -1. -/
def lvl (R : Nat → List Nat) (i : Nat) : Int := if i ∈ R 0 then 0 else if i ∈ R 1 then 1 else if i ∈ R 2 then 2 else if i ∈ R 3 then 3 else -1
theorem lvl_of {R : Nat → List Nat} {i l : Nat} (hl : l < 4) (hi : i ∈ R l) (ho : ∀ m, m < 4 → i ∈ R m → m = l) : lvl R i = (l : Int) := by
  unfold lvl
  by_cases h0 : i ∈ R 0
  · rw [if_pos h0, ← ho 0 (by omega) h0]; rfl
  rw [if_neg h0]
  by_cases h1 : i ∈ R 1
  · rw [if_pos h1, ← ho 1 (by omega) h1]; rfl
  rw [if_neg h1]
  by_cases h2 : i ∈ R 2
  · rw [if_pos h2, ← ho 2 (by omega) h2]; rfl
  rw [if_neg h2]
  by_cases h3 : i ∈ R 3
  · rw [if_pos h3, ← ho 3 (by omega) h3]; rfl
  rcases (show l = 0 ∨ l = 1 ∨ l = 2 ∨ l = 3 by omega) with rfl | rfl | rfl | rfl
  · exact absurd hi h0
  · exact absurd hi h1
  · exact absurd hi h2
  · exact absurd hi h3
theorem lvl_no {R : Nat → List Nat} {i : Nat} (h : ∀ m, m < 4 → i ∉ R m) : lvl R i = -1 := by
  unfold lvl
  rw [if_neg (h 0 (by omega)), if_neg (h 1 (by omega)), if_neg (h 2 (by omega)), if_neg (h 3 (by omega))]
theorem lvl_cases (R : Nat → List Nat) (i : Nat) : (lvl R i = -1 ∧ ∀ m, m < 4 → i ∉ R m) ∨ ∃ l : Nat, l < 4 ∧ lvl R i = (l : Int) ∧ i ∈ R l := by
  unfold lvl
  by_cases h0 : i ∈ R 0
  · exact Or.inr ⟨0, by omega, by rw [if_pos h0]; rfl, h0⟩
  by_cases h1 : i ∈ R 1
  · exact Or.inr ⟨1, by omega, by rw [if_neg h0, if_pos h1]; rfl, h1⟩
  by_cases h2 : i ∈ R 2
  · exact Or.inr ⟨2, by omega, by rw [if_neg h0, if_neg h1, if_pos h2]; rfl, h2⟩
  by_cases h3 : i ∈ R 3
  · exact Or.inr ⟨3, by omega, by rw [if_neg h0, if_neg h1, if_neg h2, if_pos h3]; rfl, h3⟩
  refine Or.inl ⟨by rw [if_neg h0, if_neg h1, if_neg h2, if_neg h3], fun m hm => ?_⟩
  rcases (show m = 0 ∨ m = 1 ∨ m = 2 ∨ m = 3 by omega) with rfl | rfl | rfl | rfl
  · exact h0
  · exact h1
  · exact h2
  · exact h3
theorem QOk.lvl {F : Nat → Int} {n : Nat} {R : Nat → List Nat} (h : QOk F n R) {i : Nat} (hi : i < 16) : F (1 + i) = lvl R i := by
  rcases h.on hi with ⟨h1, h2⟩ | ⟨l, hl, h1, h2⟩
  · rw [h1, lvl_no h2]
  · rw [h1, lvl_of hl h2 fun m hm hx => h.one hm hl hx h2]
/-- A thing taken out of all rows; put at the end of one. -/
def rem (R : Nat → List Nat) (i : Nat) : Nat → List Nat := fun k => (R k).filter (fun x => decide (x ≠ i))
def put (R : Nat → List Nat) (i l : Nat) : Nat → List Nat := setR (rem R i) l (rem R i l ++ [i])
theorem rem_no {R : Nat → List Nat} {i k : Nat} (h : i ∉ R k) : rem R i k = R k := by
  unfold rem
  rw [List.filter_eq_self]
  intro x hx
  have e : x ≠ i := fun e => h (e ▸ hx)
  simpa using e
theorem QOk.congr {F : Nat → Int} {n : Nat} {R R' : Nat → List Nat} (h : QOk F n R) (e : ∀ l, l < 4 → R' l = R l) : QOk F n R' :=
  ⟨h.n0, h.n1, h.n16, fun l hl => by rw [e l hl]; exact h.row l hl, fun l hl => by rw [e l hl]; exact h.lt l hl, fun x hx hn => h.no x hx fun l hl => by rw [← e l hl]; exact hn l hl⟩
theorem QOk.put {F : Nat → Int} {n i l : Nat} {R : Nat → List Nat} (h : QOk F n R) (hi : i < n) (hl : l < 4) (hno : ∀ m, m < 4 → i ∉ R m) : QOk (apF F i l) n (put R i l) :=
  (h.append hi hl hno).congr fun m hm => by
    unfold Go.Proofs.Ytfkepplpeakgmaa.put setR
    rw [rem_no (hno l hl)]
    split
    · rfl
    · exact rem_no (hno m hm)
theorem QOk.rem {F : Nat → Int} {n i l : Nat} {R : Nat → List Nat} (h : QOk F n R) (hl : l < 4) (hx : i ∈ R l) : ∃ p q : Int, F (1 + i) = (l : Int) ∧ F (17 + i) = p ∧ F (33 + i) = q ∧ (p = -1 ∨ ∃ y : Nat, p = (y : Int) ∧ y < 16) ∧ (q = -1 ∨ ∃ y : Nat, q = (y : Int) ∧ y < 16) ∧ QOk (tkF F i l p q) n (rem R i) := by
  obtain ⟨A, B, hL, h1, h2, h3, h4⟩ := h.take hl hx
  have h16 := h.n16
  have hm : ∀ x ∈ R l, x < 16 := fun x hx => by have := h.lt l hl x hx; omega
  have hnd := (h.row l hl).nd
  rw [hL] at hnd
  obtain ⟨n1, n2, n3⟩ := List.nodup_append.1 hnd
  have hiA : i ∉ A := fun hh => n3 i hh i (by simp) rfl
  have hiB : i ∉ B := (List.nodup_cons.1 n2).1
  refine ⟨_, _, h1, h2, h3, ?_, ?_, h4.congr fun m hm' => ?_⟩
  · by_cases e : A = []
    · exact Or.inl (by rw [e]; rfl)
    · obtain ⟨y, hy, e2⟩ := lsO_mem (p := -1) e
      exact Or.inr ⟨y, e2, hm y (by rw [hL]; simp [hy])⟩
  · by_cases e : B = []
    · exact Or.inl (by rw [e]; rfl)
    · obtain ⟨y, hy, e2⟩ := hdO_mem (q := -1) e
      exact Or.inr ⟨y, e2, hm y (by rw [hL]; simp [hy])⟩
  · unfold setR
    by_cases e : m = l
    · subst e
      rw [if_pos rfl]
      unfold Go.Proofs.Ytfkepplpeakgmaa.rem
      rw [hL, List.filter_append, List.filter_cons_of_neg (by simp), List.filter_eq_self.2, List.filter_eq_self.2]
      · intro x hx; have e : x ≠ i := (fun e => hiB (e ▸ hx)); simpa using e
      · intro x hx; have e : x ≠ i := (fun e => hiA (e ▸ hx)); simpa using e
    · rw [if_neg e]
      exact rem_no fun hh => e (h.one hm' hl hh hx)
theorem QOk.rem_no {F : Nat → Int} {n i : Nat} {R : Nat → List Nat} (h : QOk F n R) {m : Nat} (hm : m < 4) : i ∉ Go.Proofs.Ytfkepplpeakgmaa.rem R i m := by
  unfold Go.Proofs.Ytfkepplpeakgmaa.rem
  intro hh
  have := (List.mem_filter.1 hh).2
  simp at this
/-- A queue by its rows. -/
def QR (w : World) (g n : Nat) (R : Nat → List Nat) : Prop := ∃ F, QAt w g F ∧ QOk F n R
def misA (R : Nat → List Nat) (n : Nat) (i : Int) : Int := if i < 0 ∨ (n : Int) ≤ i then 3 else if lvl R i.toNat = -1 then 7 else 0
theorem QOk.mis {F : Nat → Int} {n : Nat} {R : Nat → List Nat} (h : QOk F n R) (i : Int) : misE F n i = misA R n i := by
  unfold misE misA
  by_cases h1 : i < 0 ∨ (n : Int) ≤ i
  · rw [if_pos h1, if_pos h1]
  · have := h.n16
    rw [if_neg h1, if_neg h1, h.lvl (i := i.toNat) (by omega)]
end Go.Proofs.Ytfkepplpeakgmaa
