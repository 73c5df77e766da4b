/- Whole numbers as floats of 64 bits: sums and products are exact (plain facts). -/
import Derived.Test.YtfkepplpeakgmaaPhM
namespace Go.Proofs.Ytfkepplpeakgmaa
open Go
set_option linter.unusedVariables false

theorem log2_mul (N j : Nat) (h : N ≠ 0) : (N * 2 ^ j).log2 = N.log2 + j := by
  have hp : 0 < 2 ^ j := Nat.two_pow_pos j
  rw [Nat.log2_eq_iff (by have := Nat.mul_pos (Nat.pos_of_ne_zero h) hp; omega)]
  obtain ⟨h1, h2⟩ := (Nat.log2_eq_iff h).1 rfl
  constructor
  · rw [Nat.pow_add]; exact Nat.mul_le_mul_right _ h1
  · rw [show N.log2 + j + 1 = (N.log2 + 1) + j by omega, Nat.pow_add]; exact Nat.mul_lt_mul_of_pos_right h2 hp
theorem cut_exact (s : Bool) (K d : Nat) (h : K ≠ 0) : Ieee.Toward.even.cut s (K * 2 ^ d) d = K := by
  unfold Ieee.Toward.cut
  have hl := log2_mul K d h
  have hg : 1 <<< min d ((K * 2 ^ d).log2 + 2) = 2 ^ d := by
    rw [hl, Nat.min_eq_left (by omega), Nat.shiftLeft_eq, Nat.one_mul]
  simp only [hg]
  have hp : 0 < 2 ^ d := Nat.two_pow_pos d
  rw [Nat.mul_mod_left, Nat.mul_div_cancel _ hp]
  simp
theorem log2_le {N : Nat} (h : N < 9007199254740992) (h0 : N ≠ 0) : N.log2 ≤ 52 := by
  have : N.log2 < 53 := (Nat.log2_lt h0).2 h
  omega
/-- The rung of a whole number. -/
def rungOf (N : Nat) : Nat := if N = 0 then 0 else (N.log2 + 1022) * 4503599627370496 + N * 2 ^ (52 - N.log2)
theorem kept_bounds {N : Nat} (h : N < 9007199254740992) (h0 : N ≠ 0) : 4503599627370496 ≤ N * 2 ^ (52 - N.log2) ∧ N * 2 ^ (52 - N.log2) < 9007199254740992 := by
  have hl := log2_le h h0
  obtain ⟨h1, h2⟩ := (Nat.log2_eq_iff h0).1 rfl
  have hp : 0 < 2 ^ (52 - N.log2) := Nat.two_pow_pos _
  constructor
  · have : 2 ^ N.log2 * 2 ^ (52 - N.log2) ≤ N * 2 ^ (52 - N.log2) := Nat.mul_le_mul_right _ h1
    rw [← Nat.pow_add, show N.log2 + (52 - N.log2) = 52 by omega] at this
    exact this
  · have : N * 2 ^ (52 - N.log2) < 2 ^ (N.log2 + 1) * 2 ^ (52 - N.log2) := Nat.mul_lt_mul_of_pos_right h2 hp
    rw [← Nat.pow_add, show N.log2 + 1 + (52 - N.log2) = 53 by omega] at this
    exact this
theorem word_eq (s : Bool) (r : Nat) : Ieee.double.word s r = if s then 9223372036854775808 + r else r := by
  unfold Ieee.Format.word
  rw [double_vals.1]
theorem near (s : Bool) (N j : Nat) (h : N < 9007199254740992) : Ieee.double.nearest s (N * 2 ^ j) (-(j : Int)) = Ieee.double.word s (rungOf N) := by
  obtain ⟨v1, v2, v3, v4⟩ := double_vals
  by_cases h0 : N = 0
  · subst h0
    unfold Ieee.Format.nearest rungOf
    simp
  have hl := log2_le h h0
  have hp : 0 < 2 ^ j := Nat.two_pow_pos j
  have hne : N * 2 ^ j ≠ 0 := by have := Nat.mul_pos (Nat.pos_of_ne_zero h0) hp; omega
  have kb := kept_bounds h h0
  unfold Ieee.Format.nearest rungOf
  rw [if_neg hne, if_neg h0]
  simp only [v2, v3, v4, log2_mul N j h0]
  have hf : Ieee.double.fractionBits = 52 := rfl
  rw [hf]
  have hlast : max (-(j : Int) + ((N.log2 + j : Nat) : Int) - (52 : Nat)) (-1074) = (N.log2 : Int) - 52 := by omega
  rw [hlast]
  have hkept : Ieee.Toward.even.cut s ((N * 2 ^ j) <<< (-(j : Int) - ((N.log2 : Int) - 52)).toNat) (((N.log2 : Int) - 52) - -(j : Int)).toNat = N * 2 ^ (52 - N.log2) := by
    by_cases hd : j + N.log2 ≤ 52
    · have e1 : (-(j : Int) - ((N.log2 : Int) - 52)).toNat = 52 - N.log2 - j := by omega
      have e2 : (((N.log2 : Int) - 52) - -(j : Int)).toNat = 0 := by omega
      rw [e1, e2, Nat.shiftLeft_eq, Nat.mul_assoc, ← Nat.pow_add, show j + (52 - N.log2 - j) = 52 - N.log2 by omega]
      have := cut_exact s (N * 2 ^ (52 - N.log2)) 0 (by omega)
      simpa using this
    · have e1 : (-(j : Int) - ((N.log2 : Int) - 52)).toNat = 0 := by omega
      have e2 : (((N.log2 : Int) - 52) - -(j : Int)).toNat = j + N.log2 - 52 := by omega
      rw [e1, e2, Nat.shiftLeft_eq, Nat.pow_zero, Nat.mul_one]
      have e3 : N * 2 ^ j = (N * 2 ^ (52 - N.log2)) * 2 ^ (j + N.log2 - 52) := by
        rw [Nat.mul_assoc, ← Nat.pow_add, show 52 - N.log2 + (j + N.log2 - 52) = j by omega]
      rw [e3]
      exact cut_exact s _ _ (by omega)
  rw [hkept]
  have e4 : ((N.log2 : Int) - 52 - -1074).toNat = N.log2 + 1022 := by omega
  rw [e4, Nat.min_eq_left (by omega)]
/-- A whole number as a float. -/
def fi (n : Int) : Nat := floatOfInt .f64 n
theorem fi_eq (n : Int) (h : n.natAbs < 9007199254740992) : fi n = Ieee.double.word (decide (n < 0)) (rungOf n.natAbs) := by
  have := near (decide (n < 0)) n.natAbs 0 h
  rw [Nat.pow_zero, Nat.mul_one] at this
  exact this
theorem rungOf_lt {N : Nat} (h : N < 9007199254740992) : rungOf N < 9218868437227405312 := by
  unfold rungOf
  by_cases h0 : N = 0
  · rw [if_pos h0]; omega
  · rw [if_neg h0]
    have := kept_bounds h h0
    have := log2_le h h0
    omega
theorem word_parts (s : Bool) {r : Nat} (h : r < 9218868437227405312) : rung (Ieee.double.word s r) = r ∧ sgn (Ieee.double.word s r) = s ∧ Ieee.double.word s r < 18446744073709551616 := by
  rw [word_eq]
  unfold rung sgn
  cases s
  · simp; omega
  · simp only [if_true]
    refine ⟨by omega, ?_, by omega⟩
    have : (9223372036854775808 + r) / 9223372036854775808 % 2 = 1 := by omega
    rw [this]; rfl
theorem fi_parts (n : Int) (h : n.natAbs < 9007199254740992) : rung (fi n) = rungOf n.natAbs ∧ sgn (fi n) = decide (n < 0) ∧ fi n < 18446744073709551616 := by
  rw [fi_eq n h]
  exact word_parts _ (rungOf_lt h)
theorem fi_lt {n : Int} (h : n.natAbs < 9007199254740992) : fi n < 18446744073709551616 := (fi_parts n h).2.2
theorem fi_fin {n : Int} (h : n.natAbs < 9007199254740992) : isFin (fi n) = true := by
  unfold isFin
  rw [(fi_parts n h).1]
  exact decide_eq_true (rungOf_lt h)
/-- A float's value is a whole number. -/
def Val (b : Nat) (n : Int) : Prop := ∃ (s : Bool) (M j : Nat), Ieee.double.read b = .number s M (-(j : Int)) ∧ Ieee.signed s M 0 = n * 2 ^ j
theorem signed_mul (s : Bool) (M k : Nat) : Ieee.signed s M k = Ieee.signed s M 0 * 2 ^ k := by
  unfold Ieee.signed
  simp only [shl, Nat.pow_zero, Nat.mul_one]
  cases s <;> simp [Int.natCast_mul, Int.natCast_pow, Int.neg_mul]
theorem read_word (s : Bool) {N : Nat} (h : N < 9007199254740992) : ∃ M j : Nat, Ieee.double.read (Ieee.double.word s (rungOf N)) = .number s M (-(j : Int)) ∧ (M : Int) = (N : Int) * 2 ^ j := by
  obtain ⟨p1, p2, p3⟩ := word_parts s (rungOf_lt h)
  by_cases h0 : N = 0
  · subst h0
    refine ⟨0, 1074, ?_, (Int.zero_mul _).symm⟩
    rw [read_eq, p1, p2]
    rfl
  · have kb := kept_bounds h h0
    have hl := log2_le h h0
    refine ⟨N * 2 ^ (52 - N.log2), 52 - N.log2, ?_, by rw [Int.natCast_mul, Int.natCast_pow]; rfl⟩
    rw [read_fin (by unfold isFin; rw [p1]; exact decide_eq_true (rungOf_lt h)), p2]
    unfold mag upr
    rw [p1]
    have hr : rungOf N = (N.log2 + 1022) * 4503599627370496 + N * 2 ^ (52 - N.log2) := if_neg h0
    generalize N * 2 ^ (52 - N.log2) = K at *
    rw [if_neg (by omega), if_neg (by omega)]
    congr 1 <;> omega
theorem fi_val {n : Int} (h : n.natAbs < 9007199254740992) : ∃ M j : Nat, Ieee.double.read (fi n) = .number (decide (n < 0)) M (-(j : Int)) ∧ Ieee.signed (decide (n < 0)) M 0 = n * 2 ^ j := by
  rw [fi_eq n h]
  obtain ⟨M, j, h1, h2⟩ := read_word (decide (n < 0)) h
  refine ⟨M, j, h1, ?_⟩
  unfold Ieee.signed
  simp only [shl, Nat.pow_zero, Nat.mul_one]
  rw [h2]
  by_cases hn : n < 0
  · rw [decide_eq_true hn, if_pos rfl, ← Int.neg_mul]
    congr 1; omega
  · rw [decide_eq_false hn, if_neg (by simp)]
    congr 1; omega
theorem fi_Val {n : Int} (h : n.natAbs < 9007199254740992) : Val (fi n) n := by
  obtain ⟨M, j, h1, h2⟩ := fi_val h
  exact ⟨_, M, j, h1, h2⟩
theorem read_fneg (b : Nat) (h : isFin b = true) : Ieee.double.read (fneg b) = (Ieee.double.read b).opposite := by
  obtain ⟨h1, h2⟩ := fneg_parts b
  have hs : sgn (fneg b) = !sgn b := by
    unfold sgn
    rw [h2]
    have : (b / 9223372036854775808 ^^^ 1) % 2 = (b / 9223372036854775808 % 2) ^^^ 1 := by
      have := Nat.xor_mod_two_pow (a := b / 9223372036854775808) (b := 1) (n := 1)
      simpa using this
    rw [this]
    have hc : b / 9223372036854775808 % 2 = 0 ∨ b / 9223372036854775808 % 2 = 1 := by omega
    rcases hc with h | h <;> rw [h] <;> rfl
  rw [read_fin (by rw [fneg_fin]; exact h), read_fin h, hs]
  unfold mag upr
  rw [h1]
  rfl
theorem fneg_Val {b : Nat} {n : Int} (h : Val b n) (hf : isFin b = true) : Val (fneg b) (-n) := by
  obtain ⟨s, M, j, h1, h2⟩ := h
  refine ⟨!s, M, j, by rw [read_fneg b hf, h1]; rfl, ?_⟩
  rw [Int.neg_mul, ← h2]
  unfold Ieee.signed
  cases s <;> simp
theorem two_pow_pos (k : Nat) : (0 : Int) < 2 ^ k := by
  have := Nat.two_pow_pos k
  have e : ((2 ^ k : Nat) : Int) = 2 ^ k := by simp
  omega
theorem natAbs_mul_pow (n : Int) (k : Nat) : (n * 2 ^ k).natAbs = n.natAbs * 2 ^ k := by
  rw [Int.natAbs_mul, Int.natAbs_pow]; rfl
theorem write_val {n : Int} (h : n.natAbs < 9007199254740992) (k : Nat) : Ieee.double.write (.number (decide (n * 2 ^ k < 0)) (n * 2 ^ k).natAbs (-(k : Int))) = fi n := by
  have hd : decide (n * 2 ^ k < 0) = decide (n < 0) := by
    have := two_pow_pos k
    rcases Int.lt_trichotomy n 0 with h | h | h
    · have : n * 2 ^ k < 0 := Int.mul_neg_of_neg_of_pos h this
      simp [h, this]
    · subst h; simp
    · have : 0 < n * 2 ^ k := Int.mul_pos h this
      have h1 : ¬ n * 2 ^ k < 0 := by omega
      have h2 : ¬ n < 0 := by omega
      simp [h1, h2]
  show Ieee.double.nearest _ _ _ = _
  rw [hd, natAbs_mul_pow, near _ _ _ h, fi_eq n h]
theorem fi_zero : fi 0 = 0 := by decide +kernel
theorem add_fi {m n : Int} {c : Nat} (hm : m.natAbs < 9007199254740992) (hs : (m + n).natAbs < 9007199254740992) (hc : Val c n) : Ieee.double.add (fi m) c = some (fi (m + n)) := by
  obtain ⟨M, i, h1, h2⟩ := fi_val hm
  obtain ⟨t, N, j, h3, h4⟩ := hc
  unfold Ieee.Format.add
  rw [h1, h3]
  unfold Ieee.Datum.sum
  simp only [Option.map_some]
  obtain ⟨k, hk⟩ : ∃ k, max i j = k := ⟨_, rfl⟩
  have hb : min (-(i : Int)) (-(j : Int)) = -(k : Int) := by omega
  have e1 : (-(i : Int) - -(k : Int)).toNat = k - i := by omega
  have e2 : (-(j : Int) - -(k : Int)).toNat = k - j := by omega
  rw [hb, e1, e2, signed_mul _ M, signed_mul _ N, h2, h4, Int.mul_assoc, Int.mul_assoc, ← Int.pow_add, ← Int.pow_add, show i + (k - i) = k by omega, show j + (k - j) = k by omega, ← Int.add_mul]
  congr 1
  by_cases h0 : m + n = 0
  · rw [h0]
    simp only [Int.zero_mul, if_true]
    have hsg : (decide (m < 0) && t) = false := by
      by_cases hm0 : m < 0
      · have hn0 : 0 < n := by omega
        have : 0 < n * 2 ^ j := Int.mul_pos hn0 (two_pow_pos j)
        cases t
        · simp
        · exfalso
          rw [← h4] at this
          unfold Ieee.signed at this
          simp at this
          omega
      · simp [hm0]
    rw [hsg, fi_zero]
    show Ieee.double.nearest false 0 _ = 0
    unfold Ieee.Format.nearest
    simp [word_eq]
  · have hne : (m + n) * 2 ^ k ≠ 0 := by
      have := two_pow_pos k
      intro h
      rcases Int.mul_eq_zero.1 h with h | h <;> omega
    rw [if_neg hne]
    exact write_val hs k
theorem signed_prod (s t : Bool) (M N : Nat) : Ieee.signed (s ^^ t) (M * N) 0 = Ieee.signed s M 0 * Ieee.signed t N 0 := by
  unfold Ieee.signed
  simp only [shl, Nat.pow_zero, Nat.mul_one]
  cases s <;> cases t <;> simp [Int.natCast_mul, Int.neg_mul, Int.mul_neg]
theorem signed_abs {s : Bool} {M : Nat} {p : Int} (h : Ieee.signed s M 0 = p) : M = p.natAbs ∧ (p = 0 ∨ s = decide (p < 0)) := by
  unfold Ieee.signed at h
  simp only [shl, Nat.pow_zero, Nat.mul_one] at h
  cases s
  · simp at h
    subst h
    refine ⟨by omega, ?_⟩
    by_cases h0 : (M : Int) = 0
    · exact .inl h0
    · right; symm; apply decide_eq_false; omega
  · simp at h
    refine ⟨by omega, ?_⟩
    by_cases h0 : p = 0
    · exact .inl h0
    · right; symm; apply decide_eq_true; omega
theorem mul_fi {b c : Nat} {s t : Bool} {M N i j : Nat} {p : Int} (h1 : Ieee.double.read b = .number s M (-(i : Int))) (h2 : Ieee.double.read c = .number t N (-(j : Int))) (hp : Ieee.signed s M 0 * Ieee.signed t N 0 = p * 2 ^ (i + j))
    (hl : p.natAbs < 9007199254740992) (h0 : p = 0 → (s ^^ t) = false) : Ieee.double.mul b c = some (fi p) := by
  unfold Ieee.Format.mul
  rw [h1, h2]
  unfold Ieee.Datum.product
  simp only [Option.map_some]
  rw [← signed_prod] at hp
  obtain ⟨e1, e2⟩ := signed_abs hp
  congr 1
  have e3 : -(i : Int) + -(j : Int) = -((i + j : Nat) : Int) := by omega
  rw [e3, e1]
  have e4 : (s ^^ t) = decide (p * 2 ^ (i + j) < 0) := by
    rcases e2 with h | h
    · have hp0 : p = 0 := by
        have := two_pow_pos (i + j)
        rcases Int.mul_eq_zero.1 h with h | h <;> omega
      rw [h0 hp0, hp0]; simp
    · exact h
  rw [e4]
  exact write_val hl (i + j)
theorem mul_fi_fi {m n : Int} (hm : m.natAbs < 9007199254740992) (hn : n.natAbs < 9007199254740992) (hl : (m * n).natAbs < 9007199254740992) (h0 : m * n = 0 → (decide (m < 0) ^^ decide (n < 0)) = false) : Ieee.double.mul (fi m) (fi n) = some (fi (m * n)) := by
  obtain ⟨M, i, h1, h2⟩ := fi_val hm
  obtain ⟨N, j, h3, h4⟩ := fi_val hn
  refine mul_fi h1 h3 ?_ hl h0
  rw [h2, h4, Int.pow_add]
  simp only [Int.mul_assoc, Int.mul_left_comm]
theorem quarter_read : Ieee.double.read 4598175219545276416 = .number false 4503599627370496 (-(54 : Nat)) := by decide +kernel
theorem mul_quarter {n : Int} (hl : (4 * n).natAbs < 9007199254740992) : Ieee.double.mul (fi (4 * n)) 4598175219545276416 = some (fi n) := by
  obtain ⟨M, i, h1, h2⟩ := fi_val hl
  refine mul_fi h1 quarter_read ?_ (by omega) ?_
  · rw [h2, Int.pow_add]
    have : Ieee.signed false 4503599627370496 0 = 4503599627370496 := by decide +kernel
    have e : (2 : Int) ^ 54 = 4 * 4503599627370496 := by decide +kernel
    rw [this, e]
    generalize (2 : Int) ^ i = x
    rw [Int.mul_comm 4 n]
    simp only [Int.mul_assoc, Int.mul_left_comm, Int.mul_comm]
  · intro h
    subst h
    rfl
theorem order_fi {m n : Int} (hm : m.natAbs < 9007199254740992) (hn : n.natAbs < 9007199254740992) : Ieee.double.order (fi m) (fi n) = some (compare m n) := by
  obtain ⟨M, i, h1, h2⟩ := fi_val hm
  obtain ⟨N, j, h3, h4⟩ := fi_val hn
  unfold Ieee.Format.order
  rw [h1, h3]
  unfold Ieee.Datum.order
  simp only
  obtain ⟨k, hk⟩ : ∃ k, max i j = k := ⟨_, rfl⟩
  have hb : min (-(i : Int)) (-(j : Int)) = -(k : Int) := by omega
  have e1 : (-(i : Int) - -(k : Int)).toNat = k - i := by omega
  have e2 : (-(j : Int) - -(k : Int)).toNat = k - j := by omega
  rw [hb, e1, e2, signed_mul _ M, signed_mul _ N, h2, h4, Int.mul_assoc, Int.mul_assoc, ← Int.pow_add, ← Int.pow_add, show i + (k - i) = k by omega, show j + (k - j) = k by omega]
  congr 1
  have hp := two_pow_pos k
  generalize (2 : Int) ^ k = x at hp
  rcases Int.lt_trichotomy m n with h | h | h
  · have h5 : m * x < n * x := Int.mul_lt_mul_of_pos_right h hp
    show compareOfLessAndEq _ _ = compareOfLessAndEq _ _
    unfold compareOfLessAndEq
    rw [if_pos h5, if_pos h]
  · subst h
    rw [(compare_int_eq _ _).2 rfl, (compare_int_eq _ _).2 rfl]
  · have h5 : n * x < m * x := Int.mul_lt_mul_of_pos_right h hp
    rw [(compare_int_gt _ _).2 h5, (compare_int_gt _ _).2 h]
end Go.Proofs.Ytfkepplpeakgmaa
