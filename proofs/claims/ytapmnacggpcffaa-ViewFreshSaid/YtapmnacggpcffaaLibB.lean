/- Plain lemmas: bytes as a number. -/
import Derived.Test.YtapmnacggpcffaaLib
import Derived.Lib.Strings
import Derived.Laws.BitsLemmas
import Derived.Laws.BitsAllLaws
namespace Go.Proofs.Ytapmnacggpcffaa
open Go.RowKit Go.Deep

/-- The number that bytes are, the higher first. -/
def beV (l : List UInt8) : Int := l.foldl (fun n b => n * 256 + (b.toNat : Int)) 0
theorem beV_nil : beV [] = 0 := rfl
theorem beV_snoc (l : List UInt8) (b : UInt8) : beV (l ++ [b]) = beV l * 256 + (b.toNat : Int) := by simp [beV]
theorem foldl_lt (l : List UInt8) : ∀ a : Int, 0 ≤ a → 0 ≤ l.foldl (fun n b => n * 256 + (b.toNat : Int)) a ∧ l.foldl (fun n b => n * 256 + (b.toNat : Int)) a < (a + 1) * 256 ^ l.length := by
  induction l with
  | nil => intro a h; simp; omega
  | cons b l ih =>
    intro a h
    have hb : (b.toNat : Int) < 256 := by have := b.toNat_lt; omega
    have := ih (a * 256 + b.toNat) (by omega)
    simp only [List.foldl_cons, List.length_cons]
    refine ⟨this.1, Int.lt_of_lt_of_le this.2 ?_⟩
    rw [Int.pow_succ, Int.mul_comm (256 ^ l.length) 256, ← Int.mul_assoc]
    exact Int.mul_le_mul_of_nonneg_right (by omega) (Int.pow_nonneg (by omega))
theorem beV_nonneg (l : List UInt8) : 0 ≤ beV l := (foldl_lt l 0 (by omega)).1
theorem beV_lt (l : List UInt8) : beV l < 256 ^ l.length := by have := (foldl_lt l 0 (by omega)).2; simpa [beV] using this
theorem pow_le (n : Nat) (h : n ≤ 6) : (256 : Int) ^ n ≤ 281474976710656 := by
  have : n = 0 ∨ n = 1 ∨ n = 2 ∨ n = 3 ∨ n = 4 ∨ n = 5 ∨ n = 6 := by omega
  rcases this with h | h | h | h | h | h | h <;> subst h <;> decide
/-- What has been read of at most eight bytes, the first of eight below 128, ahead of one more. -/
theorem beV_room (l : List UInt8) (k : Nat) (hk : k < l.length) (h8 : l.length ≤ 8) (h : l.length = 8 → (l[0]?.getD 0).toNat < 128) : beV (l.take k) ≤ 36028797018963967 := by
  match l, k with
  | [], _ => simp at hk
  | _ :: _, 0 => simp [beV]
  | b :: l, k + 1 =>
    simp only [List.take_succ_cons]
    simp only [List.length_cons] at hk h8 h
    have h1 := (foldl_lt (l.take k) (b.toNat : Int) (by omega)).2
    have h2 : beV (b :: l.take k) = (l.take k).foldl (fun n b => n * 256 + (b.toNat : Int)) (b.toNat : Int) := by simp [beV]
    rw [h2]
    have hl : (l.take k).length = k := by simp; omega
    rw [hl] at h1
    have h3 := pow_le k (by omega)
    have hb : (b.toNat : Int) < 256 := by have := b.toNat_lt; omega
    by_cases e : k = 6
    · subst e
      have hb2 : (b.toNat : Int) < 128 := by have := h (by omega); simp at this; omega
      have : ((b.toNat : Int) + 1) * 256 ^ 6 ≤ 128 * 281474976710656 := Int.mul_le_mul (by omega) h3 (Int.pow_nonneg (by omega)) (by omega)
      omega
    · have h5 : k ≤ 5 := by omega
      have h4 : (256 : Int) ^ k ≤ 1099511627776 := by
        have : k = 0 ∨ k = 1 ∨ k = 2 ∨ k = 3 ∨ k = 4 ∨ k = 5 := by omega
        rcases this with h | h | h | h | h | h <;> subst h <;> decide
      have : ((b.toNat : Int) + 1) * 256 ^ k ≤ 256 * 1099511627776 := Int.mul_le_mul (by omega) h4 (Int.pow_nonneg (by omega)) (by omega)
      omega

def getE (l : List UInt8) : Int := if l.length = 0 then 5 else if 8 < l.length then 4 else if l.length = 8 ∧ 128 ≤ (l[0]?.getD 0).toNat then 3 else 0
def getV (l : List UInt8) : Int := if getE l = 0 then beV l else 0
theorem take_snoc (l : List UInt8) (k : Nat) (h : k < l.length) : l.take (k + 1) = l.take k ++ [l[k]] := List.take_succ_eq_append_getElem h
theorem byte_at (s : ByteArray) (k : Nat) (h : k < s.size) : s.data.toList[k]'(by rw [← Lib.size_eq]; exact h) = s[k] := by
  cases s; rfl
theorem byte_head (s : ByteArray) (h : 0 < s.size) : s.data.toList[0]?.getD 0 = s[0] := by
  have h' : 0 < s.data.toList.length := by rw [← Lib.size_eq]; exact h
  rw [List.getElem?_eq_getElem h']
  exact byte_at s 0 h
theorem take_byte (s : ByteArray) (k : Nat) (h : k < s.size) : s.data.toList.take (k + 1) = s.data.toList.take k ++ [s[k]] := by
  rw [take_snoc _ _ (by rw [← Lib.size_eq]; exact h), byte_at]
theorem take_all (s : ByteArray) (k : Nat) (h : s.size ≤ k) : s.data.toList.take k = s.data.toList := List.take_of_length_le (by rw [← Lib.size_eq]; exact h)
theorem not_empty (s : ByteArray) (h : 0 < s.size) : s.toList.isEmpty = false := by
  rw [Lib.toList_data]
  have : s.data.toList.length ≠ 0 := by rw [← Lib.size_eq]; omega
  cases hl : s.data.toList with
  | nil => rw [hl] at this; simp at this
  | cons => rfl
theorem is_empty (s : ByteArray) (h : s.size = 0) : s.toList.isEmpty = true := by
  rw [Lib.toList_data]
  have : s.data.toList.length = 0 := by rw [← Lib.size_eq]; omega
  rw [List.length_eq_zero_iff.1 this]; rfl
theorem wraps_i64_63 (n : Int) (h₀ : 0 ≤ n) (h₁ : n < 2 ^ 63) : IntKind.i64.wrap n = n := by rw [IntKind.wrap_i64]; omega
theorem or_byte (x : Int) (b : UInt8) (h0 : 0 ≤ x) (h1 : x ≤ 36028797018963967) : bits BinOp.or .i64 (x * 256) (wrap64 (b.toNat : Int)) = x * 256 + (b.toNat : Int) := by
  have hb := b.toNat_lt
  rw [IntWalk.wrap64_in _ ⟨by omega, by omega⟩]
  exact bits_join .i64 63 (by decide) wraps_i64_63 8 (x * 256) (b.toNat : Int) (by omega) (by omega) (by omega) (by omega) (by omega) (by omega)
theorem add_byte (x : Int) (b : UInt8) (h0 : 0 ≤ x) (h1 : x ≤ 36028797018963967) : wrap64 (x * 256 + wrap64 (b.toNat : Int)) = x * 256 + (b.toNat : Int) := by
  have hb := b.toNat_lt
  rw [IntWalk.wrap64_in (b.toNat : Int) ⟨by omega, by omega⟩, IntWalk.wrap64_in _ ⟨by omega, by omega⟩]
/-- Byte by byte, the bits of which just one is 1. -/
def xorAt (a b : List UInt8) (j : Nat) : UInt8 := a[j]?.getD 0 ^^^ b[j]?.getD 0
def xorL (a b : List UInt8) : List UInt8 := (List.range a.length).map (xorAt a b)
theorem byte_getD (s : ByteArray) (k : Nat) (h : k < s.size) : s.data.toList[k]?.getD 0 = s[k] := by
  have h' : k < s.data.toList.length := by rw [← Lib.size_eq]; exact h
  rw [List.getElem?_eq_getElem h']
  exact byte_at s k h
theorem xor_val (x y : UInt8) : bits BinOp.xor .u8 (x.toNat : Int) (y.toNat : Int) = ((x ^^^ y).toNat : Int) := by
  rw [u8_xor_nat _ _ x.toNat_lt y.toNat_lt, UInt8.toNat_xor]
def putE' (n : Int) (W : Nat) : Int := if n / 2 ^ (8 * W) = 0 then 0 else 3
def putL' (n : Int) (W : Nat) : List UInt8 := if n / 2 ^ (8 * W) = 0 then beL n W else []
theorem put'_zero {n : Int} {W : Nat} (h : n / 2 ^ (8 * W) = 0) : putE' n W = 0 ∧ putL' n W = beL n W := by
  constructor
  · unfold putE'; rw [if_pos h]
  · unfold putL'; rw [if_pos h]
theorem put'_more {n : Int} {W : Nat} (h : n / 2 ^ (8 * W) ≠ 0) : putE' n W = 3 ∧ putL' n W = [] := by
  constructor
  · unfold putE'; rw [if_neg h]
  · unfold putL'; rw [if_neg h]
theorem div_step (n : Int) (k : Nat) : n / 2 ^ (8 * k) / 256 = n / 2 ^ (8 * (k + 1)) := by
  rw [Int.ediv_ediv_of_nonneg (Int.pow_nonneg (by omega)), show (8 * (k + 1)) = 8 * k + 8 from by omega, Int.pow_add]
  rfl
theorem div_le_self (n : Int) (k : Nat) (hn : 0 ≤ n) : n / 2 ^ (8 * k) ≤ n := Int.ediv_le_self _ hn
theorem put_same {n : Int} {W : Nat} (h : 1 ≤ W) (h' : W ≤ 8) (hn : 0 ≤ n) (hN : n ≤ 9223372036854775807) : putE n W = putE' n W ∧ putL n W = putL' n W := by
  by_cases hz : n / 2 ^ (8 * W) = 0
  · obtain ⟨a, b⟩ := put'_zero hz
    obtain ⟨c, d⟩ := put_of_ok (n := n) (W := W) ⟨by omega, by omega⟩ (fun h => by
      rcases h with h | h
      · omega
      · exact h.2 (by simpa using hz))
    rw [a, b, c, d]; simp
  · obtain ⟨a, b⟩ := put'_more hz
    have h8 : W ≠ 8 := by
      rintro rfl
      apply hz
      apply Int.ediv_eq_zero_of_lt hn
      omega
    obtain ⟨c, d⟩ := put_of_range (n := n) (W := W) ⟨by omega, by omega⟩ (.inr ⟨by omega, by simpa using hz⟩)
    rw [a, b, c, d]; simp
end Go.Proofs.Ytapmnacggpcffaa
