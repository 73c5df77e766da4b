/- Pure facts: what a tally comes to. -/
import Derived.Test.YtnbmpackjgffaaaTaC
namespace Go.Proofs.Ytnbmpackjgffaaa
open Go.RowKit Go.Deep
set_option linter.unusedVariables false
/-- How many of the first n have p. -/
def cnt (p : Nat → Bool) : Nat → Int
  | 0 => 0
  | n + 1 => cnt p n + (if p n then 1 else 0)
theorem cnt_bd (p : Nat → Bool) : ∀ n : Nat, 0 ≤ cnt p n ∧ cnt p n ≤ n
  | 0 => by simp [cnt]
  | n + 1 => by have := cnt_bd p n; unfold cnt; split <;> omega
def qx (q : Nat) : Int := if q = 0 then 1 else if q = 2 then -1 else 0
def qy (q : Nat) : Int := if q = 1 then 1 else if q = 3 then -1 else 0
/-- Is act i a read that was answered well? -/
def isRd (K E : Nat → Int) (i : Nat) : Bool := decide (K i = 1) && decide (E i = 0)
def bsum (K E : Nat → Int) (S : Nat → ByteArray) : Nat → Int
  | 0 => 0
  | n + 1 => if isRd K E n then wrap64 (bsum K E S n + (S n).size) else bsum K E S n
def bx_ (f : Nat → Int) (K E : Nat → Int) : Nat → Int
  | 0 => 0
  | n + 1 => bx_ f K E n + (if isRd K E n then f (n % 4) else 0)
theorem bx_bd (f : Nat → Int) (hf : ∀ q, -1 ≤ f q ∧ f q ≤ 1) (K E : Nat → Int) : ∀ n : Nat, -(n : Int) ≤ bx_ f K E n ∧ bx_ f K E n ≤ n
  | 0 => by simp [bx_]
  | n + 1 => by have := bx_bd f hf K E n; have := hf (n % 4); unfold bx_; split <;> omega
theorem qx_bd (q : Nat) : -1 ≤ qx q ∧ qx q ≤ 1 := by unfold qx; split <;> (try split) <;> omega
theorem qy_bd (q : Nat) : -1 ≤ qy q ∧ qy q ≤ 1 := by unfold qy; split <;> (try split) <;> omega
/-- The tally of n acts. -/
def tl (K E : Nat → Int) (S : Nat → ByteArray) (n : Nat) : Tl where
  a := fun j => cnt (fun i => decide (kindI (K i) = (j : Int))) n
  e := fun j => cnt (fun i => decide (errI (E i) = (j : Int))) n
  b := bsum K E S n
  x := fi (bx_ qx K E n)
  y := fi (bx_ qy K E n)
theorem one_fi : fi 1 = 4607182418800017408 := by decide +kernel
theorem fin_zero : isFin 0 = true := by decide +kernel
theorem fin_one : isFin 4607182418800017408 = true := by decide +kernel
theorem val_one : Val 4607182418800017408 1 := by rw [← one_fi]; exact fi_Val (by decide)
theorem val_zero : Val 0 0 := by have := fi_Val (n := 0) (by decide); rwa [fi_zero] at this
theorem turn_val (q : Nat) (hq : q < 4) : Val (turnF q (4607182418800017408, 0)).1 (qx q) ∧ Val (turnF q (4607182418800017408, 0)).2 (qy q) := by
  have z1 : Val (fneg 0) 0 := fneg_Val val_zero fin_zero
  have o1 : Val (fneg 4607182418800017408) (-1) := fneg_Val val_one fin_one
  have z2 : Val (fneg (fneg 0)) 0 := by rw [fneg_neg]; exact val_zero
  have : q = 0 ∨ q = 1 ∨ q = 2 ∨ q = 3 := by omega
  rcases this with rfl | rfl | rfl | rfl
  · exact ⟨val_one, val_zero⟩
  · exact ⟨z1, val_one⟩
  · exact ⟨o1, z1⟩
  · exact ⟨z2, o1⟩
theorem fadd_fi {m n : Int} {c r : Nat} (hm : m.natAbs < 9007199254740992) (hs : (m + n).natAbs < 9007199254740992) (hc : Val c n) (h : FAns (fadd (fi m) c) r) : r = fi (m + n) := h.of (v := fi (m + n)) (add_fi hm hs hc)
theorem wrap_in {n : Int} (h : -9223372036854775808 ≤ n ∧ n ≤ 9223372036854775807) : IntKind.i64.wrap n = n := IntWalk.i64_in _ (by omega)
theorem tl_step (K E : Nat → Int) (S : Nat → ByteArray) (i κ ε : Nat) (U : Tl) (hi : i < 9007199254740990) (hκ : kindI (K i) = κ) (hε : errI (E i) = ε) (h : Step (tl K E S i) (K i) (E i) κ ε (S i).size i U) : U = tl K E S (i + 1) := by
  obtain ⟨h1, h2, h3, h4⟩ := h
  have ha : U.a = (tl K E S (i + 1)).a := by
    rw [h1]
    funext j
    show upd _ κ _ j = cnt _ i + (if decide (kindI (K i) = (j : Int)) = true then 1 else 0)
    unfold upd
    have hb := cnt_bd (fun i => decide (kindI (K i) = (κ : Int))) i
    by_cases e : j = κ
    · subst e
      rw [if_pos rfl, hκ, if_pos (by simp)]
      exact wrap_in (by show _ ≤ cnt _ i + 1 ∧ cnt _ i + 1 ≤ _; omega)
    · rw [if_neg e, hκ, if_neg (by simp; omega)]
      show cnt _ i = cnt _ i + 0
      omega
  have he : U.e = (tl K E S (i + 1)).e := by
    rw [h2]
    funext j
    show upd _ ε _ j = cnt _ i + (if decide (errI (E i) = (j : Int)) = true then 1 else 0)
    unfold upd
    have hb := cnt_bd (fun i => decide (errI (E i) = (ε : Int))) i
    by_cases e : j = ε
    · subst e
      rw [if_pos rfl, hε, if_pos (by simp)]
      exact wrap_in (by show _ ≤ cnt _ i + 1 ∧ cnt _ i + 1 ≤ _; omega)
    · rw [if_neg e, hε, if_neg (by simp; omega)]
      show cnt _ i = cnt _ i + 0
      omega
  have hx := bx_bd qx qx_bd K E i
  have hy := bx_bd qy qy_bd K E i
  have gx := qx_bd (i % 4)
  have gy := qy_bd (i % 4)
  by_cases hr : K i = 1 ∧ E i = 0
  · have hR : isRd K E i = true := by unfold isRd; simp [hr]
    obtain ⟨b1, b2, b3⟩ := h3 hr
    obtain ⟨v1, v2⟩ := turn_val (i % 4) (by omega)
    have hb : U.b = (tl K E S (i + 1)).b := by rw [b1]; show _ = bsum K E S (i + 1); rw [bsum, if_pos hR]; rfl
    have hx' : U.x = (tl K E S (i + 1)).x := by
      show U.x = fi (bx_ qx K E (i + 1))
      rw [bx_, if_pos hR]
      exact fadd_fi (by omega) (by omega) v1 b2
    have hy' : U.y = (tl K E S (i + 1)).y := by
      show U.y = fi (bx_ qy K E (i + 1))
      rw [bx_, if_pos hR]
      exact fadd_fi (by omega) (by omega) v2 b3
    cases U
    simp only at ha he hb hx' hy'
    subst ha he hb hx' hy'
    rfl
  · have hR : isRd K E i = false := by
      unfold isRd
      by_cases h5 : K i = 1
      · simp [h5]; exact fun h6 => hr ⟨h5, h6⟩
      · simp [h5]
    obtain ⟨b1, b2, b3⟩ := h4 hr
    have hb : U.b = (tl K E S (i + 1)).b := by rw [b1]; show bsum K E S i = bsum K E S (i + 1); rw [bsum, hR]; rfl
    have hx' : U.x = (tl K E S (i + 1)).x := by rw [b2]; show fi (bx_ qx K E i) = fi (bx_ qx K E i + _); rw [hR]; simp
    have hy' : U.y = (tl K E S (i + 1)).y := by rw [b3]; show fi (bx_ qy K E i) = fi (bx_ qy K E i + _); rw [hR]; simp
    cases U
    simp only at ha he hb hx' hy'
    subst ha he hb hx' hy'
    rfl
theorem tl_zero (K E : Nat → Int) (S : Nat → ByteArray) : tl K E S 0 = ⟨fun _ => 0, fun _ => 0, 0, 0, 0⟩ := by
  unfold tl
  simp only [cnt, bsum, bx_, fi_zero]
end Go.Proofs.Ytnbmpackjgffaaa
