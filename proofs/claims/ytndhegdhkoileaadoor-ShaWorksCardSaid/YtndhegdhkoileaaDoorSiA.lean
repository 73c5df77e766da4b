/- Words as rows of bits (the reference of layer 3), plain. -/
import Derived.Test.YtndhegdhkoileaaDoorShV
namespace Go.Proofs.YtndhegdhkoileaaDoor
set_option linter.unusedVariables false
set_option linter.unusedSimpArgs false
/-- Bit j of a word. -/
def wbt (x : UInt32) (j : Nat) : Nat := x.toNat / 2 ^ j % 2
theorem wbt_lt (x : UInt32) (j : Nat) : wbt x j ≤ 1 := by unfold wbt; omega
theorem wbt_bit (x : UInt32) (j : Nat) : wbt x j = (x.toNat.testBit j).toNat := by
  unfold wbt
  rw [Nat.toNat_testBit]
theorem wbt_xor (x y : UInt32) (j : Nat) : wbt (x ^^^ y) j = (wbt x j + wbt y j) % 2 := by
  rw [wbt_bit, wbt_bit, wbt_bit, UInt32.toNat_xor, Nat.testBit_xor]
  cases x.toNat.testBit j <;> cases y.toNat.testBit j <;> rfl
theorem wbt_and (x y : UInt32) (j : Nat) : wbt (x &&& y) j = wbt x j * wbt y j := by
  rw [wbt_bit, wbt_bit, wbt_bit, UInt32.toNat_and, Nat.testBit_and]
  cases x.toNat.testBit j <;> cases y.toNat.testBit j <;> rfl
theorem wbt_high (x : UInt32) (j : Nat) (h : 32 ≤ j) : x.toNat.testBit j = false :=
  Nat.testBit_lt_two_pow (Nat.lt_of_lt_of_le x.toNat_lt (Nat.pow_le_pow_right (by decide) h))
theorem wbt_not (x : UInt32) (j : Nat) (h : j < 32) : wbt (~~~x) j = 1 - wbt x j := by
  have e : (~~~x).toNat.testBit j = !x.toNat.testBit j := by
    have h1 : (~~~x).toNat.testBit j = (~~~x).toBitVec.getLsbD j := rfl
    have h2 : x.toNat.testBit j = x.toBitVec.getLsbD j := rfl
    rw [h1, h2, UInt32.toBitVec_not, BitVec.getLsbD_not]
    simp [h]
  rw [wbt_bit, wbt_bit, e]
  cases x.toNat.testBit j <;> rfl
theorem wbt_shr (x : UInt32) (n j : Nat) (hn : n < 32) (hj : j < 32) : wbt (x >>> UInt32.ofNat n) j = if j + n < 32 then wbt x (j + n) else 0 := by
  rw [wbt_bit, UInt32.toNat_shiftRight, show (UInt32.ofNat n).toNat % 32 = n from by rw [UInt32.toNat_ofNat']; omega, Nat.testBit_shiftRight, Nat.add_comm n j]
  by_cases h : j + n < 32
  · rw [if_pos h, wbt_bit]
  · rw [if_neg h, wbt_high x _ (by omega)]; rfl
theorem wbt_rr (x : UInt32) (n j : Nat) (h1 : 1 ≤ n) (hn : n < 32) (hj : j < 32) : wbt (rr x n) j = wbt x ((j + n) % 32) := by
  unfold rr
  rw [wbt_bit, wbt_bit, UInt32.toNat_or, Nat.testBit_or, UInt32.toNat_shiftRight, UInt32.toNat_shiftLeft]
  rw [show (UInt32.ofNat n).toNat % 32 = n from by rw [UInt32.toNat_ofNat']; omega, show (UInt32.ofNat (32 - n)).toNat % 32 = 32 - n from by rw [UInt32.toNat_ofNat']; omega]
  rw [Nat.testBit_shiftRight, Nat.testBit_mod_two_pow, Nat.testBit_shiftLeft]
  by_cases h : j + n < 32
  · rw [show (j + n) % 32 = n + j from by omega, show decide (j ≥ 32 - n) = false from decide_eq_false (by omega)]
    simp
  · rw [wbt_high x (n + j) (by omega), show (j + n) % 32 = j - (32 - n) from by omega, show decide (j ≥ 32 - n) = true from decide_eq_true (by omega)]
    simp [hj]
/-- A word's bits, the highest first. -/
def bitsL (x : UInt32) : List Nat := (List.range 32).map fun i => wbt x (31 - i)
theorem bitsL_len (x : UInt32) : (bitsL x).length = 32 := by unfold bitsL; simp
theorem bitsL_at (x : UInt32) (i : Nat) (h : i < 32) : lget (bitsL x) i = wbt x (31 - i) := by
  unfold bitsL lget
  rw [List.getElem?_map, List.getElem?_range h]
  rfl
/-- The number of the first k bits. -/
def numT (l : List Nat) : Nat → Nat
  | 0 => 0
  | k + 1 => 2 * numT l k + lget l k
theorem num_of (y : UInt32) (l : List Nat) (h : ∀ i, i < 32 → lget l i = wbt y (31 - i)) : ∀ k, k ≤ 32 → numT l k = y.toNat / 2 ^ (32 - k)
  | 0, _ => by
    have := y.toNat_lt
    show 0 = _
    rw [Nat.div_eq_of_lt (by simpa using this)]
  | k + 1, hk => by
    have ih := num_of y l h k (by omega)
    show 2 * numT l k + lget l k = _
    rw [ih, h k (by omega)]
    unfold wbt
    rw [show 32 - k = (31 - k) + 1 from by omega, Nat.pow_succ, ← Nat.div_div_eq_div_mul, show 32 - (k + 1) = 31 - k from by omega]
    omega
theorem num_all (y : UInt32) (l : List Nat) (h : ∀ i, i < 32 → lget l i = wbt y (31 - i)) : numT l 32 = y.toNat := by
  rw [num_of y l h 32 (Nat.le_refl _)]
  simp
theorem numT_lt (l : List Nat) (h : ∀ i, lget l i ≤ 1) : ∀ k, numT l k < 2 ^ k
  | 0 => by show 0 < 1; omega
  | k + 1 => by
    have := numT_lt l h k
    have := h k
    show 2 * numT l k + lget l k < _
    rw [Nat.pow_succ]
    omega
/-- Bit i of a word turned twice, and a third time (or pushed). -/
def thB (x : UInt32) (t0 t1 t2 : Nat) (push : Bool) (i : Nat) : Nat :=
  (lget (bitsL x) ((i + 32 - t0) % 32) + lget (bitsL x) ((i + 32 - t1) % 32) + (if push = true ∧ i < t2 then 0 else lget (bitsL x) ((i + 32 - t2) % 32))) % 2
theorem wbt_turn (x : UInt32) (n i : Nat) (h1 : 1 ≤ n) (hn : n < 32) (hi : i < 32) : lget (bitsL x) ((i + 32 - n) % 32) = wbt (rr x n) (31 - i) := by
  rw [bitsL_at _ _ (by omega), wbt_rr x n _ h1 hn (by omega)]
  congr 1
  omega
theorem thB_bs (x : UInt32) (t0 t1 t2 : Nat) (h0 : 1 ≤ t0 ∧ t0 < 32) (h1 : 1 ≤ t1 ∧ t1 < 32) (h2 : 1 ≤ t2 ∧ t2 < 32) (i : Nat) (hi : i < 32) : thB x t0 t1 t2 false i = wbt ((rr x t0 ^^^ rr x t1) ^^^ rr x t2) (31 - i) := by
  unfold thB
  rw [wbt_turn x t0 i h0.1 h0.2 hi, wbt_turn x t1 i h1.1 h1.2 hi, wbt_turn x t2 i h2.1 h2.2 hi, if_neg (by simp), wbt_xor, wbt_xor]
  omega
theorem thB_sg (x : UInt32) (t0 t1 t2 : Nat) (h0 : 1 ≤ t0 ∧ t0 < 32) (h1 : 1 ≤ t1 ∧ t1 < 32) (h2 : 1 ≤ t2 ∧ t2 < 32) (i : Nat) (hi : i < 32) : thB x t0 t1 t2 true i = wbt ((rr x t0 ^^^ rr x t1) ^^^ (x >>> UInt32.ofNat t2)) (31 - i) := by
  unfold thB
  rw [wbt_turn x t0 i h0.1 h0.2 hi, wbt_turn x t1 i h1.1 h1.2 hi, wbt_xor, wbt_xor, wbt_shr x t2 _ h2.2 (by omega)]
  by_cases h : i < t2
  · rw [if_pos ⟨rfl, h⟩, if_neg (by omega)]
    omega
  · rw [if_neg (by simp; omega), if_pos (by omega), bitsL_at _ _ (by omega), show 31 - (i + 32 - t2) % 32 = 31 - i + t2 from by omega]
    omega
def pkB (e f g : UInt32) (i : Nat) : Nat := if lget (bitsL e) i = 1 then lget (bitsL f) i else lget (bitsL g) i
theorem pkB_ch (e f g : UInt32) (i : Nat) (hi : i < 32) : pkB e f g i = wbt (chw e f g) (31 - i) := by
  unfold pkB chw
  rw [bitsL_at _ _ hi, bitsL_at _ _ hi, bitsL_at _ _ hi, wbt_xor, wbt_and, wbt_and, wbt_not _ _ (by omega)]
  have h1 := wbt_lt e (31 - i)
  have h2 := wbt_lt f (31 - i)
  have h3 := wbt_lt g (31 - i)
  rcases (show wbt e (31 - i) = 0 ∨ wbt e (31 - i) = 1 by omega) with h | h <;> rw [h] <;> simp <;> omega
def msB (a b c : UInt32) (i : Nat) : Nat := (lget (bitsL a) i + lget (bitsL b) i + lget (bitsL c) i) / 2
theorem msB_mj (a b c : UInt32) (i : Nat) (hi : i < 32) : msB a b c i = wbt (mjw a b c) (31 - i) := by
  unfold msB mjw
  rw [bitsL_at _ _ hi, bitsL_at _ _ hi, bitsL_at _ _ hi, wbt_xor, wbt_xor, wbt_and, wbt_and, wbt_and]
  have h1 := wbt_lt a (31 - i)
  have h2 := wbt_lt b (31 - i)
  have h3 := wbt_lt c (31 - i)
  rcases (show wbt a (31 - i) = 0 ∨ wbt a (31 - i) = 1 by omega) with h | h <;> rcases (show wbt b (31 - i) = 0 ∨ wbt b (31 - i) = 1 by omega) with k | k <;> rcases (show wbt c (31 - i) = 0 ∨ wbt c (31 - i) = 1 by omega) with m | m <;> rw [h, k, m]
end Go.Proofs.YtndhegdhkoileaaDoor
