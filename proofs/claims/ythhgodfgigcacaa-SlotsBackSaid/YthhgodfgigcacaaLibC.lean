/- Plain lemmas: numbers of one width are in order as their bytes. -/
import Derived.Test.YthhgodfgigcacaaLibB
import Derived.Deep.Draws
import Derived.OwnWalk
namespace Go.Proofs.Ythhgodfgigcacaa
open Go.RowKit Go.Deep

theorem byteU_lt (a b : Int) (i : Nat) : byteU a i < byteU b i ↔ a / 2 ^ (8 * i) % 256 < b / 2 ^ (8 * i) % 256 := by
  rw [UInt8.lt_iff_toNat_lt, ← byteU_val, ← byteU_val]; omega
theorem byteU_eq (a b : Int) (i : Nat) : byteU a i = byteU b i ↔ a / 2 ^ (8 * i) % 256 = b / 2 ^ (8 * i) % 256 := by
  rw [← UInt8.toNat_inj, ← byteU_val, ← byteU_val]; omega
theorem lt_of_div_lt {a b c : Int} (hc : 0 < c) (h : a / c < b / c) : a < b := by
  apply Int.lt_of_not_ge
  intro hle
  have := Int.ediv_le_ediv hc hle
  omega
theorem order_beL (W : Nat) : ∀ a b : Int, a / 2 ^ (8 * W) = b / 2 ^ (8 * W) → (Op.bytesLess (beL a W) (beL b W) = decide (a < b)) ∧ (beL a W = beL b W ↔ a = b) := by
  induction W with
  | zero =>
    intro a b h
    simp at h
    subst h
    simp [beL_zero, Op.bytesLess]
  | succ W ih =>
    intro a b h
    rw [← div_step, ← div_step] at h
    have hc : (0 : Int) < 2 ^ (8 * W) := Int.pow_pos (by omega)
    rw [beL_succ, beL_succ]
    by_cases e : a / 2 ^ (8 * W) % 256 = b / 2 ^ (8 * W) % 256
    · have e1 : a / 2 ^ (8 * W) = b / 2 ^ (8 * W) := by omega
      have := ih a b e1
      rw [(byteU_eq a b W).2 e]
      constructor
      · rw [← this.1]; simp [Op.bytesLess]
      · rw [← this.2]; simp
    · have hne : byteU a W ≠ byteU b W := fun h => e ((byteU_eq a b W).1 h)
      constructor
      · by_cases l : a / 2 ^ (8 * W) % 256 < b / 2 ^ (8 * W) % 256
        · have h1 := (byteU_lt a b W).2 l
          have h2 : a < b := lt_of_div_lt hc (by omega)
          simp [Op.bytesLess, h1, h2]
        · have h1 : ¬ byteU a W < byteU b W := fun h => l ((byteU_lt a b W).1 h)
          have h2 : ¬ a < b := by
            have := lt_of_div_lt (a := b) (b := a) hc (by omega)
            omega
          simp [Op.bytesLess, h1, h2, hne]
      · constructor
        · intro h; exact absurd (List.cons.inj h).1 hne
        · intro h; exact absurd (by rw [h]) hne

theorem high_zero {n : Int} {W : Nat} (h1 : 1 ≤ W) (h8 : W ≤ 8) (hN : n ≤ 9223372036854775807) (h : putE n W = 0) : 0 ≤ n ∧ n / 2 ^ (8 * W) = 0 := by
  by_cases hn : n < 0
  · have := (put_of_range (n := n) (W := W) ⟨by omega, by omega⟩ (.inl hn)).1
    omega
  · refine ⟨by omega, ?_⟩
    rw [(put_same h1 h8 (by omega) hN).1] at h
    by_cases e : n / 2 ^ (8 * W) = 0
    · exact e
    · rw [(put'_more e).1] at h; omega
theorem putL_ok {n : Int} {W : Nat} (h : putE n W = 0) : putL n W = beL n W := by unfold putL; rw [if_pos h]; simp
theorem putL_no {n W : Int} (h : putE n W ≠ 0) : putL n W = [] := by unfold putL; rw [if_neg h]

/-- What was laid reads as the number. -/
theorem beV_cons (b : UInt8) (l : List UInt8) : beV (b :: l) = (b.toNat : Int) * 256 ^ l.length + beV l := by
  have : ∀ (l : List UInt8) (a : Int), l.foldl (fun n b => n * 256 + (b.toNat : Int)) a = a * 256 ^ l.length + l.foldl (fun n b => n * 256 + (b.toNat : Int)) 0 := by
    intro l
    induction l with
    | nil => intro a; simp
    | cons c l ih =>
      intro a
      simp only [List.foldl_cons, List.length_cons]
      rw [ih (a * 256 + c.toNat), ih (0 * 256 + c.toNat)]
      rw [Int.pow_succ]
      simp only [Int.add_mul, Int.zero_mul, Int.zero_add, Int.mul_assoc]
      rw [Int.mul_comm 256 (256 ^ l.length)]
      omega
  unfold beV
  simp only [List.foldl_cons]
  rw [this]
  simp
theorem beV_beL (n : Int) (W : Nat) : beV (beL n W) = n % 2 ^ (8 * W) := by
  induction W with
  | zero => simp [beL_zero, beV_nil]
  | succ W ih =>
    rw [beL_succ, beV_cons, ih, beL_length, byteU_val]
    have e1 : (256 : Int) ^ W = 2 ^ (8 * W) := by rw [Int.pow_mul]; rfl
    have e2 : (2 : Int) ^ (8 * (W + 1)) = 2 ^ (8 * W) * 256 := by rw [show 8 * (W + 1) = 8 * W + 8 from by omega, Int.pow_add]; rfl
    rw [e1, e2]
    have hc : (0 : Int) < 2 ^ (8 * W) := Int.pow_pos (by omega)
    generalize (2 : Int) ^ (8 * W) = c at hc
    have a1 := Int.mul_ediv_add_emod n c
    have a2 := Int.mul_ediv_add_emod n (c * 256)
    have a3 : n / c / 256 = n / (c * 256) := Int.ediv_ediv_of_nonneg (by omega)
    have a4 := Int.mul_ediv_add_emod (n / c) 256
    rw [a3] at a4
    have a5 : c * (256 * (n / (c * 256)) + n / c % 256) = c * (n / c) := by rw [a4]
    rw [Int.mul_add, ← Int.mul_assoc] at a5
    rw [Int.mul_comm (n / c % 256) c]
    omega
theorem get_beL {n : Int} {W : Nat} (h1 : 1 ≤ W) (h8 : W ≤ 8) (hN : n ≤ 9223372036854775807) (h : putE n W = 0) : getE (beL n W) = 0 ∧ getV (beL n W) = n := by
  obtain ⟨h0, hz⟩ := high_zero h1 h8 hN h
  have hv : beV (beL n W) = n := by
    rw [beV_beL]
    have := Int.mul_ediv_add_emod n (2 ^ (8 * W))
    rw [hz] at this
    simpa using this
  have he : getE (beL n W) = 0 := by
    unfold getE
    rw [beL_length, if_neg (by omega), if_neg (by omega), if_neg]
    rintro ⟨rfl, hh⟩
    rw [beL_succ] at hh
    simp at hh
    have := byteU_val n 7
    omega
  exact ⟨he, by unfold getV; rw [if_pos he]; exact hv⟩

theorem bit_of (a k : Nat) : a.testBit k = decide (a / 2 ^ k % 2 = 1) := by rw [Nat.testBit_eq_decide_div_mod_eq]
theorem xor_step (a b k : Nat) : (a ^^^ b) % 2 ^ (k + 1) = (a ^^^ b) % 2 ^ k + if a / 2 ^ k % 2 = b / 2 ^ k % 2 then 0 else 2 ^ k := by
  rw [Nat.mod_pow_succ]
  have ht : decide ((a ^^^ b) / 2 ^ k % 2 = 1) = (decide (a / 2 ^ k % 2 = 1) != decide (b / 2 ^ k % 2 = 1)) := by
    rw [← bit_of, ← bit_of, ← bit_of, Nat.testBit_xor]
  have h0 : (a ^^^ b) / 2 ^ k % 2 < 2 := Nat.mod_lt _ (by omega)
  have h1 : a / 2 ^ k % 2 < 2 := Nat.mod_lt _ (by omega)
  have h2 : b / 2 ^ k % 2 < 2 := Nat.mod_lt _ (by omega)
  have e0 : (a ^^^ b) / 2 ^ k % 2 = 0 ∨ (a ^^^ b) / 2 ^ k % 2 = 1 := by omega
  have e1 : a / 2 ^ k % 2 = 0 ∨ a / 2 ^ k % 2 = 1 := by omega
  have e2 : b / 2 ^ k % 2 = 0 ∨ b / 2 ^ k % 2 = 1 := by omega
  rcases e0 with e0 | e0 <;> rcases e1 with e1 | e1 <;> rcases e2 with e2 | e2 <;> simp [e0, e1, e2] at ht ⊢
theorem xor_step_eq (a b k : Nat) (h : (a : Int) / 2 ^ k % 2 = (b : Int) / 2 ^ k % 2) : (((a ^^^ b) % 2 ^ (k + 1) : Nat) : Int) = ((a ^^^ b) % 2 ^ k : Nat) := by
  have h' : a / 2 ^ k % 2 = b / 2 ^ k % 2 := by exact_mod_cast h
  rw [xor_step, if_pos h']; rfl
theorem xor_step_ne (a b k : Nat) (h : ¬ (a : Int) / 2 ^ k % 2 = (b : Int) / 2 ^ k % 2) : (((a ^^^ b) % 2 ^ (k + 1) : Nat) : Int) = ((a ^^^ b) % 2 ^ k : Nat) + 2 ^ k := by
  have h' : ¬ a / 2 ^ k % 2 = b / 2 ^ k % 2 := fun e => h (by exact_mod_cast e)
  rw [xor_step, if_neg h']; norm_cast
theorem byteq (x : UInt8) (p : Nat) (_hp : 1 ≤ p) : (wrap64 ((wrap64 (x.toNat : Int)).tdiv (p : Int))).tmod 2 = (x.toNat : Int) / p % 2 := by
  have hx := x.toNat_lt
  have h0 : (0 : Int) ≤ (x.toNat : Int) / p := Int.ediv_nonneg (by omega) (by omega)
  have h1 : (x.toNat : Int) / p ≤ x.toNat := Int.ediv_le_self _ (by omega)
  rw [IntWalk.wrap64_in (x.toNat : Int) ⟨by omega, by omega⟩, Int.tdiv_eq_ediv_of_nonneg (by omega), IntWalk.wrap64_in _ ⟨by omega, by omega⟩, Int.tmod_eq_emod_of_nonneg h0]
theorem xor8 (x y : UInt8) : (x.toNat ^^^ y.toNat) % 2 ^ 8 = (x ^^^ y).toNat := by
  rw [← UInt8.toNat_xor, Nat.mod_eq_of_lt (x ^^^ y).toNat_lt]
theorem ownsRow_drewN {w : World} {base : Nat} {e : TypeId} {size : Nat} {v : Value} {n : Nat} {xs : List Value} (h : w.ownsRow base e size v n xs) (d : Nat) : (w.drewN d).ownsRow base e size v n xs := h
theorem below_drewN {B : Nat} {a w : World} (h : Below B a w) (n : Nat) : Below B a (w.drewN n) := ⟨h.os, h.tape, h.output, h.size, h.block⟩
theorem xorL_get (a b : List UInt8) (k : Nat) (h : k < a.length) : (xorL a b)[k]? = some (xorAt a b k) := by
  unfold xorL; simp [h]
theorem xorL_take (a b : ByteArray) (k : Nat) (h : k < a.size) (h' : k < b.size) : (xorL a.data.toList b.data.toList).take (k + 1) = (xorL a.data.toList b.data.toList).take k ++ [a[k] ^^^ b[k]] := by
  have hl : k < a.data.toList.length := by rw [← Lib.size_eq]; exact h
  rw [List.take_add_one, xorL_get _ _ _ hl]
  unfold xorAt
  rw [byte_getD _ _ h, byte_getD _ _ h']
  rfl
theorem xorL_length (a b : List UInt8) : (xorL a b).length = a.length := by simp [xorL]
theorem xorL_back (a b : List UInt8) (h : a.length = b.length) : xorL (xorL a b) b = a := by
  apply List.ext_getElem?
  intro i
  unfold xorL
  by_cases hi : i < a.length
  · have hb : i < b.length := by omega
    simp [hi, xorAt, hb]
    rw [UInt8.xor_assoc, UInt8.xor_self, UInt8.xor_zero]
  · simp [hi]
end Go.Proofs.Ythhgodfgigcacaa
