/- Floats of 64 bits: their order, sums, signs (plain facts over the model's own reading of bits). -/
import Derived.Laws.FloatArith
import Derived.Laws.Cover2
namespace Go.Proofs.Ytfkepplpeakgmaa
open Go
set_option linter.unusedVariables false

/-- The rung of a float: its bits but the sign. -/
def rung (b : Nat) : Nat := b % 9223372036854775808
def isNan (b : Nat) : Bool := decide (9218868437227405312 < rung b)
def isFin (b : Nat) : Bool := decide (rung b < 9218868437227405312)
def sgn (b : Nat) : Bool := b / 9223372036854775808 % 2 == 1
theorem double_vals : Ieee.double.signWeight = 9223372036854775808 ∧ Ieee.double.binade = 4503599627370496 ∧ Ieee.double.infRung = 9218868437227405312 ∧ Ieee.double.leastPlace = -1074 := by decide +kernel
theorem read_eq (b : Nat) : Ieee.double.read b = if rung b < 4503599627370496 then .number (sgn b) (rung b) (-1074) else if rung b < 9218868437227405312 then
    .number (sgn b) (4503599627370496 + rung b % 4503599627370496) (-1074 + (rung b / 4503599627370496 - 1 : Nat)) else if rung b = 9218868437227405312 then .infinity (sgn b) else .nan (sgn b) (rung b - 9218868437227405312) := by
  obtain ⟨h1, h2, h3, h4⟩ := double_vals
  unfold Ieee.Format.read
  simp only [h1, h2, h3, h4]
  rfl
theorem read_nan {b : Nat} (h : isNan b = true) : ∃ s t, Ieee.double.read b = .nan s t := by
  rw [read_eq]
  unfold isNan at h
  simp only [decide_eq_true_eq] at h
  rw [if_neg (by omega), if_neg (by omega), if_neg (by omega)]
  exact ⟨_, _, rfl⟩
theorem read_inf {b : Nat} (h : rung b = 9218868437227405312) : Ieee.double.read b = .infinity (sgn b) := by
  rw [read_eq, if_neg (by omega), if_neg (by omega), if_pos h]
/-- A finite float as a number: how many of which unit. -/
def mag (b : Nat) : Nat := if rung b < 4503599627370496 then rung b else 4503599627370496 + rung b % 4503599627370496
def upr (b : Nat) : Nat := if rung b < 4503599627370496 then 0 else rung b / 4503599627370496 - 1
theorem read_fin {b : Nat} (h : isFin b = true) : Ieee.double.read b = .number (sgn b) (mag b) (-1074 + (upr b : Int)) := by
  unfold isFin at h
  simp only [decide_eq_true_eq] at h
  rw [read_eq]
  unfold mag upr
  by_cases hh : rung b < 4503599627370496
  · simp only [if_pos hh]; rfl
  · simp only [if_neg hh, if_pos h]
theorem mag_lt (b : Nat) : mag b < 9007199254740992 := by unfold mag; split <;> omega
theorem upr_le {b : Nat} (h : isFin b = true) : upr b ≤ 2045 := by
  unfold isFin at h
  simp only [decide_eq_true_eq] at h
  unfold upr; split <;> omega
theorem norm_of_upr {b : Nat} (h : 0 < upr b) : 4503599627370496 ≤ mag b := by
  unfold upr at h; unfold mag
  split at h
  · omega
  · rename_i hh; rw [if_neg hh]; omega
theorem rung_of_mag (b : Nat) : rung b = if mag b < 4503599627370496 then mag b else 4503599627370496 * (upr b) + mag b := by
  unfold mag upr
  by_cases h : rung b < 4503599627370496
  · simp only [if_pos h]
  · simp only [if_neg h]
    rw [if_neg (by omega)]
    omega
theorem kinds (b : Nat) : isNan b = true ∨ rung b = 9218868437227405312 ∨ isFin b = true := by
  unfold isNan isFin
  simp only [decide_eq_true_eq]
  omega
theorem not_nan_of_fin {b : Nat} (h : isFin b = true) : isNan b = false := by
  unfold isFin at h; unfold isNan
  simp only [decide_eq_true_eq] at h
  simp; omega
theorem not_nan_of_inf {b : Nat} (h : rung b = 9218868437227405312) : isNan b = false := by
  unfold isNan; simp; omega
theorem not_fin_of_inf {b : Nat} (h : rung b = 9218868437227405312) : isFin b = false := by
  unfold isFin; simp; omega
theorem not_fin_of_nan {b : Nat} (h : isNan b = true) : isFin b = false := by
  unfold isNan at h; unfold isFin
  simp only [decide_eq_true_eq] at h
  simp; omega
theorem bits_of (a b : Nat) (ha : a < 18446744073709551616) (hb : b < 18446744073709551616) (h1 : rung a = rung b) (h2 : sgn a = sgn b) : a = b := by
  unfold rung at h1
  unfold sgn at h2
  by_cases h : a / 9223372036854775808 % 2 = 1
  · have : b / 9223372036854775808 % 2 = 1 := by
      simp [h] at h2
      omega
    omega
  · have : ¬ b / 9223372036854775808 % 2 = 1 := by
      intro h3
      simp [h3] at h2
      exact h h2
    omega

theorem shl (n k : Nat) : n <<< k = n * 2 ^ k := Nat.shiftLeft_eq n k
theorem compare_int_eq (x y : Int) : (compare x y = .eq) ↔ x = y := by
  show compareOfLessAndEq x y = .eq ↔ _
  unfold compareOfLessAndEq
  split
  · constructor
    · intro h; cases h
    · intro h; omega
  · split
    · constructor
      · intro _; assumption
      · intro _; rfl
    · constructor
      · intro h; cases h
      · intro h; omega
theorem compare_int_gt (x y : Int) : (compare x y = .gt) ↔ y < x := by
  show compareOfLessAndEq x y = .gt ↔ _
  unfold compareOfLessAndEq
  split
  · constructor
    · intro h; cases h
    · intro h; omega
  · split
    · constructor
      · intro h; cases h
      · intro h; omega
    · constructor
      · intro _; omega
      · intro _; rfl
theorem order_nan_l {a : Nat} (b : Nat) (h : isNan a = true) : Ieee.double.order a b = none := by
  obtain ⟨s, t, h⟩ := read_nan h
  unfold Ieee.Format.order; rw [h]; rfl
theorem order_nan_r (a : Nat) {b : Nat} (h : isNan b = true) : Ieee.double.order a b = none := by
  obtain ⟨s, t, h⟩ := read_nan h
  unfold Ieee.Format.order; rw [h]; cases Ieee.double.read a <;> rfl
theorem order_fin {a b : Nat} (ha : isFin a = true) (hb : isFin b = true) : Ieee.double.order a b = some (compare (Ieee.signed (sgn a) (mag a) (upr a - min (upr a) (upr b))) (Ieee.signed (sgn b) (mag b) (upr b - min (upr a) (upr b)))) := by
  unfold Ieee.Format.order
  rw [read_fin ha, read_fin hb]
  unfold Ieee.Datum.order
  simp only
  have e1 : ((-1074 + (upr a : Int)) - min (-1074 + (upr a : Int)) (-1074 + (upr b : Int))).toNat = upr a - min (upr a) (upr b) := by omega
  have e2 : ((-1074 + (upr b : Int)) - min (-1074 + (upr a : Int)) (-1074 + (upr b : Int))).toNat = upr b - min (upr a) (upr b) := by omega
  rw [e1, e2]
theorem order_self {a : Nat} (h : isNan a = false) : Ieee.double.order a a = some .eq := by
  rcases kinds a with h1 | h1 | h1
  · rw [h1] at h; cases h
  · unfold Ieee.Format.order
    rw [read_inf h1]
    cases sgn a <;> rfl
  · rw [order_fin h1 h1]
    exact congrArg some ((compare_int_eq _ _).2 rfl)
theorem signed_eq {s t : Bool} {m n : Nat} (h : Ieee.signed s m 0 = Ieee.signed t n 0) : m = n ∧ (m = 0 ∨ s = t) := by
  unfold Ieee.signed at h
  simp only [shl, Nat.pow_zero, Nat.mul_one] at h
  cases s <;> cases t <;> simp at h <;> first | exact ⟨by omega, .inr rfl⟩ | exact ⟨by omega, .inl (by omega)⟩
theorem signed_up (s : Bool) (m k : Nat) : Ieee.signed s m k = Ieee.signed s (m * 2 ^ k) 0 := by
  unfold Ieee.signed
  simp only [shl, Nat.pow_zero, Nat.mul_one]
/-- Two finite floats that are equal are the same bits, or both zeros. -/
theorem order_eq_fin {a b : Nat} (hal : a < 18446744073709551616) (hbl : b < 18446744073709551616) (ha : isFin a = true) (hb : isFin b = true) (h : Ieee.double.order a b = some .eq) : a = b ∨ (rung a = 0 ∧ rung b = 0) := by
  rw [order_fin ha hb] at h
  simp only [Option.some.injEq] at h
  rw [compare_int_eq, signed_up (sgn a), signed_up (sgn b)] at h
  obtain ⟨hm, hs⟩ := signed_eq h
  have la := mag_lt a
  have lb := mag_lt b
  have hu : mag a = mag b ∧ (upr a = upr b ∨ mag a = 0) := by
    rcases Nat.lt_trichotomy (upr a) (upr b) with hlt | heq | hgt
    · have e1 : upr a - min (upr a) (upr b) = 0 := by omega
      rw [e1, Nat.pow_zero, Nat.mul_one] at hm
      have hn := norm_of_upr (b := b) (by omega)
      obtain ⟨d, hd⟩ : ∃ d, upr b - min (upr a) (upr b) = d + 1 := ⟨upr b - min (upr a) (upr b) - 1, by omega⟩
      rw [hd, Nat.pow_succ] at hm
      have hp : 1 ≤ 2 ^ d := Nat.one_le_two_pow
      have : mag b * 2 ≤ mag b * (2 ^ d * 2) := Nat.mul_le_mul_left _ (by omega)
      omega
    · rw [heq] at hm
      simp at hm
      exact ⟨hm, .inl heq⟩
    · have e1 : upr b - min (upr a) (upr b) = 0 := by omega
      rw [e1, Nat.pow_zero, Nat.mul_one] at hm
      have hn := norm_of_upr (b := a) (by omega)
      obtain ⟨d, hd⟩ : ∃ d, upr a - min (upr a) (upr b) = d + 1 := ⟨upr a - min (upr a) (upr b) - 1, by omega⟩
      rw [hd, Nat.pow_succ] at hm
      have hp : 1 ≤ 2 ^ d := Nat.one_le_two_pow
      have : mag a * 2 ≤ mag a * (2 ^ d * 2) := Nat.mul_le_mul_left _ (by omega)
      omega
  obtain ⟨hmm, huu⟩ := hu
  have ra := rung_of_mag a
  have rb := rung_of_mag b
  by_cases h0 : mag a = 0
  · right
    rw [if_pos (by omega)] at ra rb
    omega
  · left
    have hu2 : upr a = upr b := by rcases huu with h | h; exact h; exact absurd h h0
    refine bits_of a b hal hbl (by rw [ra, rb, hmm, hu2]) ?_
    rcases hs with h | h
    · exfalso
      have := Nat.one_le_two_pow (n := upr a - min (upr a) (upr b))
      rcases Nat.mul_eq_zero.1 h with h | h <;> omega
    · exact h
theorem order_inf_fin {a b : Nat} (ha : rung a = 9218868437227405312) (hb : isFin b = true) : Ieee.double.order a b = some (if sgn a then .lt else .gt) := by
  unfold Ieee.Format.order
  rw [read_inf ha, read_fin hb]; rfl
theorem order_fin_inf {a b : Nat} (ha : isFin a = true) (hb : rung b = 9218868437227405312) : Ieee.double.order a b = some (if sgn b then .gt else .lt) := by
  unfold Ieee.Format.order
  rw [read_fin ha, read_inf hb]; rfl
theorem order_inf_inf {a b : Nat} (ha : rung a = 9218868437227405312) (hb : rung b = 9218868437227405312) : Ieee.double.order a b = some (compare (sgn b).toNat (sgn a).toNat) := by
  unfold Ieee.Format.order
  rw [read_inf ha, read_inf hb]; rfl
/-- Two floats that are equal are the same bits, or both zeros. -/
theorem order_eq {a b : Nat} (hal : a < 18446744073709551616) (hbl : b < 18446744073709551616) (h : Ieee.double.order a b = some .eq) : a = b ∨ (rung a = 0 ∧ rung b = 0) := by
  rcases kinds a with h1 | h1 | h1
  · rw [order_nan_l b h1] at h; cases h
  · rcases kinds b with h2 | h2 | h2
    · rw [order_nan_r a h2] at h; cases h
    · rw [order_inf_inf h1 h2] at h
      refine .inl (bits_of a b hal hbl (by rw [h1, h2]) ?_)
      cases ha : sgn a <;> cases hb : sgn b <;> rw [ha, hb] at h <;> first | rfl | (exact absurd h (by decide))
    · rw [order_inf_fin h1 h2] at h
      cases hs : sgn a <;> rw [hs] at h <;> simp at h
  · rcases kinds b with h2 | h2 | h2
    · rw [order_nan_r a h2] at h; cases h
    · rw [order_fin_inf h1 h2] at h
      cases hs : sgn b <;> rw [hs] at h <;> simp at h
    · exact order_eq_fin hal hbl h1 h2 h
theorem zero_bits {a : Nat} (hal : a < 18446744073709551616) (h : rung a = 0) : a = 0 ∨ a = 9223372036854775808 := by unfold rung at h; omega
theorem order_zero {a : Nat} (hal : a < 18446744073709551616) : (Ieee.double.order a 0 == some .eq) = decide (rung a = 0) := by
  by_cases h : rung a = 0
  · rw [decide_eq_true h]
    rcases zero_bits hal h with rfl | rfl <;> decide +kernel
  · rw [decide_eq_false h]
    cases hh : (Ieee.double.order a 0 == some .eq)
    · rfl
    · exfalso
      have h3 : Ieee.double.order a 0 = some .eq := by simpa using hh
      rcases order_eq hal (by omega) h3 with rfl | ⟨h4, _⟩
      · exact h rfl
      · exact h h4
/-- The same floats: the same bits, or both no numbers. -/
def sameF (a b : Nat) : Bool := decide (a = b) || (isNan a && isNan b)
theorem sameF_self (a : Nat) : sameF a a = true := by unfold sameF; simp

def fneg (b : Nat) : Nat := b ^^^ 9223372036854775808
theorem fneg_neg (b : Nat) : fneg (fneg b) = b := by unfold fneg; rw [Nat.xor_assoc, Nat.xor_self, Nat.xor_zero]
theorem fneg_parts (b : Nat) : rung (fneg b) = rung b ∧ fneg b / 9223372036854775808 = (b / 9223372036854775808) ^^^ 1 := by
  unfold rung fneg
  have e : (9223372036854775808 : Nat) = 2 ^ 63 := rfl
  constructor
  · rw [e, Nat.xor_mod_two_pow, Nat.mod_self, Nat.xor_zero]
  · rw [e, Nat.xor_div_two_pow]
theorem fneg_lt {b : Nat} (h : b < 18446744073709551616) : fneg b < 18446744073709551616 := by
  have : (18446744073709551616 : Nat) = 2 ^ 64 := rfl
  unfold fneg
  rw [this] at *
  exact Nat.xor_lt_two_pow h (by omega)
theorem fneg_nan (b : Nat) : isNan (fneg b) = isNan b := by unfold isNan; rw [(fneg_parts b).1]
theorem fneg_fin (b : Nat) : isFin (fneg b) = isFin b := by unfold isFin; rw [(fneg_parts b).1]
theorem negFloat_eq (b : Nat) : Op.negFloat .f64 b = fneg b := rfl

theorem sub_self_fin {a : Nat} (h : isFin a = true) : Ieee.double.sub a a = some 0 := by
  unfold Ieee.Format.sub
  rw [read_fin h]
  unfold Ieee.Datum.opposite Ieee.Datum.sum
  simp only [Option.map_some, Int.sub_self, Int.min_self]
  have e : Ieee.signed (sgn a) (mag a) (Int.toNat 0) + Ieee.signed (!sgn a) (mag a) (Int.toNat 0) = 0 := by
    unfold Ieee.signed
    cases sgn a <;> simp <;> omega
  rw [e]
  cases sgn a <;> rfl
theorem sub_self_inf {a : Nat} (h : rung a = 9218868437227405312) : Ieee.double.sub a a = none := by
  unfold Ieee.Format.sub
  rw [read_inf h]
  cases sgn a <;> rfl
theorem sub_self_nan {a : Nat} (h : isNan a = true) : Ieee.double.sub a a = none := by
  unfold Ieee.Format.sub
  obtain ⟨s, t, h⟩ := read_nan h
  rw [h]; rfl
/-- A float's absolute value against the greatest finite one. -/
theorem order_max {a : Nat} (h : isNan a = false) : (Ieee.double.order (rung a) 9218868437227405311 == some .gt) = !isFin a := by
  have hr : rung (rung a) = rung a := by unfold rung; omega
  have hs : sgn (rung a) = false := by
    unfold sgn rung
    have : a % 9223372036854775808 / 9223372036854775808 = 0 := Nat.div_eq_of_lt (Nat.mod_lt _ (by omega))
    rw [this]; rfl
  have hM : isFin 9218868437227405311 = true := by decide +kernel
  rcases kinds a with h1 | h1 | h1
  · rw [h1] at h; cases h
  · rw [not_fin_of_inf h1, order_inf_fin (by rw [hr]; exact h1) hM, hs]; rfl
  · rw [h1]
    have h2 : isFin (rung a) = true := by unfold isFin at *; rw [hr]; exact h1
    rw [order_fin h2 hM]
    have em : mag 9218868437227405311 = 9007199254740991 := by decide +kernel
    have eu : upr 9218868437227405311 = 2045 := by decide +kernel
    have es : sgn 9218868437227405311 = false := by decide +kernel
    have hu := upr_le h2
    have hm := mag_lt (rung a)
    rw [em, eu, es, hs]
    generalize mag (rung a) = m at *
    generalize upr (rung a) = u at *
    have : u - min u 2045 = 0 := by omega
    rw [this, signed_up _ 9007199254740991]
    have hp : 1 ≤ 2 ^ (2045 - min u 2045) := Nat.one_le_two_pow
    generalize 2 ^ (2045 - min u 2045) = p at hp
    have h3 : 9007199254740991 * 1 ≤ 9007199254740991 * p := Nat.mul_le_mul_left _ hp
    have h4 : compare (Ieee.signed false m 0) (Ieee.signed false (9007199254740991 * p) 0) ≠ .gt := by
      rw [Ne, compare_int_gt]
      unfold Ieee.signed
      simp only [shl, Nat.pow_zero, Nat.mul_one, Bool.false_eq_true, if_false]
      omega
    cases hc : compare (Ieee.signed false m 0) (Ieee.signed false (9007199254740991 * p) 0) <;> first | rfl | exact absurd hc h4
end Go.Proofs.Ytfkepplpeakgmaa
