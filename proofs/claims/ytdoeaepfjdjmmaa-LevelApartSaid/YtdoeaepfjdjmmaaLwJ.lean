/- Level: what Balance does to the rows. -/
import Derived.Test.YtdoeaepfjdjmmaaLwH
namespace Go.Proofs.Ytdoeaepfjdjmmaa
open Go.RowKit Go.Deep
set_option linter.unusedVariables false
set_option linter.unusedSimpArgs false
theorem stp_put {n : Nat} {R : Nat → List Nat} (h : RowsOk n R) {l : Nat} (hl : l < 4) (h1 : 1 ≤ l) {x : Nat} {xs : List Nat} (e : R l = x :: xs) : stp R l = put R x (l - 1) := by
  have hv := (stp_row h hl h1 e).2
  unfold stp hdN
  rw [e]
  show movA R ((x : Int)).toNat (-1) = _
  rw [Int.toNat_natCast]
  unfold movA
  rw [hv, show cutB (-1) = -1 from rfl, show cutL ((l : Int) + -1) = ((l - 1 : Nat) : Int) by unfold cutL; rw [if_neg (by omega), if_neg (by omega)]; omega, Int.toNat_natCast]
theorem stp_rows {n : Nat} {R : Nat → List Nat} (h : RowsOk n R) {l : Nat} (hl : l < 4) (h1 : 1 ≤ l) {x : Nat} {xs : List Nat} (e : R l = x :: xs) : stp R l l = xs ∧ stp R l (l - 1) = R (l - 1) ++ [x] ∧ ∀ m, m < 4 → m ≠ l → m ≠ l - 1 → stp R l m = R m := by
  have hx : x ∈ R l := by rw [e]; exact List.mem_cons_self
  have hno : ∀ m, m < 4 → m ≠ l → x ∉ R m := fun m hm hne hh => hne (h.one m l x hm hl hh hx)
  refine ⟨(stp_row h hl h1 e).1, ?_, fun m hm a b => ?_⟩
  · rw [stp_put h hl h1 e]
    unfold put setR
    rw [if_pos rfl, rem_no (hno (l - 1) (by omega) (by omega))]
  · rw [stp_put h hl h1 e]
    unfold put setR
    rw [if_neg b, rem_no (hno m hm a)]
theorem its_rows {n : Nat} {R : Nat → List Nat} (h : RowsOk n R) {l : Nat} (hl : l < 4) (h1 : 1 ≤ l) : ∀ k, k ≤ (R l).length → (its R l k l).length = (R l).length - k ∧ (its R l k (l - 1)).length = (R (l - 1)).length + k ∧ ∀ m, m < 4 → m ≠ l → m ≠ l - 1 → its R l k m = R m := by
  intro k
  induction k with
  | zero => exact fun _ => ⟨rfl, rfl, fun _ _ _ _ => rfl⟩
  | succ k ih =>
    intro hk
    obtain ⟨i1, i2, i3⟩ := ih (by omega)
    obtain ⟨j1, j2⟩ := h.its hl h1 k (by omega)
    have e := j2.trans (list_drop_cons (by omega))
    obtain ⟨s1, s2, s3⟩ := stp_rows j1 hl h1 e
    refine ⟨?_, ?_, fun m hm a b => ?_⟩
    · show (stp (its R l k) l l).length = _
      rw [s1, List.length_drop]
    · show (stp (its R l k) l (l - 1)).length = _
      rw [s2, List.length_append, i2, List.length_singleton]; omega
    · show stp (its R l k) l m = _
      rw [s3 m hm a b, i3 m hm a b]
theorem lenS4 (R : Nat → List Nat) : lenS R 4 = (R 0).length + (R 1).length + (R 2).length + (R 3).length := by
  simp [lenS]
theorem its_len {n : Nat} {R : Nat → List Nat} (h : RowsOk n R) {l : Nat} (hl : l < 4) (h1 : 1 ≤ l) (k : Nat) (hk : k ≤ (R l).length) : lenS (its R l k) 4 = lenS R 4 := by
  obtain ⟨a, b, c⟩ := its_rows h hl h1 k hk
  rw [lenS4, lenS4]
  rcases (show l = 1 ∨ l = 2 ∨ l = 3 by omega) with rfl | rfl | rfl
  · rw [c 2 (by omega) (by omega) (by omega), c 3 (by omega) (by omega) (by omega)]
    have b' : (its R 1 k 0).length = (R 0).length + k := b
    omega
  · rw [c 0 (by omega) (by omega) (by omega), c 3 (by omega) (by omega) (by omega)]
    have b' : (its R 2 k 1).length = (R 1).length + k := b
    omega
  · rw [c 0 (by omega) (by omega) (by omega), c 1 (by omega) (by omega) (by omega)]
    have b' : (its R 3 k 2).length = (R 2).length + k := b
    omega
theorem bal_len {n : Nat} {R : Nat → List Nat} (h : RowsOk n R) (most : Int) : ∀ j, j ≤ 3 → lenS (balR R most j) 4 = lenS R 4 := by
  intro j
  induction j with
  | zero => exact fun _ => rfl
  | succ j ih =>
    intro hj
    show lenS (its (balR R most j) (3 - j) (overB (balR R most j (3 - j)) most)) 4 = _
    rw [its_len (h.balR most j (by omega)) (by omega) (by omega) _ (overB_le _ _), ih (by omega)]
/-- Behind j levels the highest j have no more than most. -/
theorem bal_top {n : Nat} {R : Nat → List Nat} (h : RowsOk n R) (most : Int) : ∀ j, j ≤ 3 → ∀ r, r < 4 → 3 - j < r → ((balR R most j r).length : Int) ≤ max most 0 := by
  intro j
  induction j with
  | zero => exact fun _ r h1 h2 => absurd h1 (by omega)
  | succ j ih =>
    intro hj r hr hr2
    obtain ⟨a, b, c⟩ := its_rows (h.balR most j (by omega)) (l := 3 - j) (by omega) (by omega) _ (overB_le _ most)
    show ((its (balR R most j) (3 - j) (overB (balR R most j (3 - j)) most) r).length : Int) ≤ _
    by_cases e : r = 3 - j
    · subst e
      rw [a]
      unfold overB
      omega
    · rw [c r hr e (by omega)]
      exact ih (by omega) r hr (by omega)
theorem bal_again {R : Nat → List Nat} (most : Int) (h : ∀ r, r < 4 → 0 < r → ((R r).length : Int) ≤ max most 0) : ∀ j, j ≤ 3 → balR R most j = R ∧ balN R most j = 0 := by
  intro j
  induction j with
  | zero => exact fun _ => ⟨rfl, rfl⟩
  | succ j ih =>
    intro hj
    obtain ⟨i1, i2⟩ := ih (by omega)
    have ho : overB (R (3 - j)) most = 0 := by
      have := h (3 - j) (by omega) (by omega)
      unfold overB
      omega
    constructor
    · show its (balR R most j) (3 - j) (overB (balR R most j (3 - j)) most) = R
      rw [i1, ho]
      rfl
    · show balN R most j + overB (balR R most j (3 - j)) most = 0
      rw [i1, i2, ho]
end Go.Proofs.Ytdoeaepfjdjmmaa
