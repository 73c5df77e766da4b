/- The field of 256 elements, as numbers: plain mathematics. -/
namespace Go.Proofs.Ytbbanhjcchnhpaa
/-- Times x. -/
def tw (a : Nat) : Nat := if a < 128 then 2 * a else (2 * a) ^^^ 283
def mulGo : Nat → Nat → Nat → Nat → Nat
  | 0, _, _, s => s
  | f + 1, a, b, s => mulGo f (tw a) (b / 2) (if b % 2 = 1 then s ^^^ a else s)
def gmul (a b : Nat) : Nat := mulGo 8 a b 0

theorem all2 {p : Nat → Nat → Bool} (n : Nat) (h : (List.range n).all (fun a => (List.range n).all fun b => p a b) = true) (a b : Nat) (ha : a < n) (hb : b < n) : p a b = true := by
  rw [List.all_eq_true] at h
  have h1 := h a (List.mem_range.2 ha)
  rw [List.all_eq_true] at h1
  exact h1 b (List.mem_range.2 hb)
theorem all1 {p : Nat → Bool} (n : Nat) (h : (List.range n).all p = true) (a : Nat) (ha : a < n) : p a = true := by
  rw [List.all_eq_true] at h
  exact h a (List.mem_range.2 ha)

theorem tw_lt (a : Nat) (h : a < 256) : tw a < 256 := by
  have := all1 (p := fun a => decide (tw a < 256)) 256 (by decide +kernel) a h
  simpa using this
theorem tw_high (a : Nat) (h : a < 256) (h' : 128 ≤ a) : (2 * a) % 256 ^^^ 27 = tw a := by
  have := all1 (p := fun a => decide (128 ≤ a → (2 * a) % 256 ^^^ 27 = tw a)) 256 (by decide +kernel) a h
  exact (of_decide_eq_true this) h'
theorem tw_low (a : Nat) (h' : a < 128) : tw a = 2 * a := if_pos h'
theorem tw_xor (a b : Nat) (ha : a < 256) (hb : b < 256) : tw (a ^^^ b) = tw a ^^^ tw b := by
  have := all2 (p := fun a b => decide (tw (a ^^^ b) = tw a ^^^ tw b)) 256 (by decide +kernel) a b ha hb
  exact of_decide_eq_true this
theorem xor_lt (a b : Nat) (ha : a < 256) (hb : b < 256) : a ^^^ b < 256 := Nat.xor_lt_two_pow (n := 8) ha hb
theorem and128 (a : Nat) (h : a < 256) : (a &&& 128 ≠ 0) ↔ 128 ≤ a := by
  have := all1 (p := fun a => decide ((a &&& 128 ≠ 0) ↔ 128 ≤ a)) 256 (by decide +kernel) a h
  exact of_decide_eq_true this
theorem mulGo_zero (f a s : Nat) : mulGo f a 0 s = s := by
  induction f generalizing a s with
  | zero => rfl
  | succ f ih => unfold mulGo; rw [if_neg (by omega)]; exact ih _ _
theorem mulGo_lt (f a b s : Nat) (ha : a < 256) (hs : s < 256) : mulGo f a b s < 256 := by
  induction f generalizing a b s with
  | zero => exact hs
  | succ f ih =>
    unfold mulGo
    refine ih _ _ _ (tw_lt a ha) ?_
    split
    · exact xor_lt _ _ hs ha
    · exact hs
theorem gmul_lt (a b : Nat) (ha : a < 256) : gmul a b < 256 := mulGo_lt 8 a b 0 ha (by omega)
theorem xor_half (b c : Nat) : (b ^^^ c) / 2 = b / 2 ^^^ c / 2 := by
  have := Nat.shiftRight_xor_distrib (a := b) (b := c) (i := 1)
  simpa [Nat.shiftRight_eq_div_pow] using this
theorem xor_odd (b c : Nat) : (b ^^^ c) % 2 = (b % 2 + c % 2) % 2 := by
  have h := Nat.xor_mod_two_pow (a := b) (b := c) (n := 1)
  simp only [Nat.pow_one] at h
  rw [h]
  rcases Nat.mod_two_eq_zero_or_one b with hb | hb <;> rcases Nat.mod_two_eq_zero_or_one c with hc | hc <;> rw [hb, hc] <;> decide
theorem mulGo_right (f a b c s t : Nat) : mulGo f a (b ^^^ c) (s ^^^ t) = mulGo f a b s ^^^ mulGo f a c t := by
  induction f generalizing a b c s t with
  | zero => rfl
  | succ f ih =>
    unfold mulGo
    rw [xor_half, ← ih]
    congr 1
    have ho := xor_odd b c
    rcases Nat.mod_two_eq_zero_or_one b with hb | hb <;> rcases Nat.mod_two_eq_zero_or_one c with hc | hc <;> rw [hb, hc] at ho
    · rw [if_neg (by omega), if_neg (by omega), if_neg (by omega)]
    · rw [if_pos (by omega), if_neg (by omega), if_pos (by omega)]; ac_rfl
    · rw [if_pos (by omega), if_pos (by omega), if_neg (by omega)]; ac_rfl
    · rw [if_neg (by omega), if_pos (by omega), if_pos (by omega)]
      have : s ^^^ a ^^^ (t ^^^ a) = (s ^^^ t) ^^^ (a ^^^ a) := by ac_rfl
      rw [this]; simp
theorem mulGo_left (f a a' b s t : Nat) (ha : a < 256) (ha' : a' < 256) : mulGo f (a ^^^ a') b (s ^^^ t) = mulGo f a b s ^^^ mulGo f a' b t := by
  induction f generalizing a a' b s t with
  | zero => rfl
  | succ f ih =>
    unfold mulGo
    rw [tw_xor a a' ha ha', ← ih _ _ _ _ _ (tw_lt a ha) (tw_lt a' ha')]
    congr 1
    split
    · ac_rfl
    · rfl
theorem gmul_add_right (a b c : Nat) : gmul a (b ^^^ c) = gmul a b ^^^ gmul a c := mulGo_right 8 a b c 0 0
theorem gmul_add_left (a b c : Nat) (ha : a < 256) (hb : b < 256) : gmul (a ^^^ b) c = gmul a c ^^^ gmul b c := mulGo_left 8 a b c 0 0 ha hb
/-- What holds of 0, of the powers of two, and of sums holds of all elements. -/
theorem xor_ind (P : Nat → Prop) (h0 : P 0) (h2 : ∀ k, k < 8 → P (2 ^ k)) (hx : ∀ a b, a < 256 → b < 256 → P a → P b → P (a ^^^ b)) : ∀ n, n < 256 → P n := by
  have key : ∀ k, k ≤ 8 → ∀ n, n < 2 ^ k → P n := by
    intro k
    induction k with
    | zero => intro _ n hn; have : n = 0 := by simpa using hn
              rw [this]; exact h0
    | succ k ih =>
      intro hk n hn
      have hp : 2 ^ k ≤ 128 := by
        have : 2 ^ k ≤ 2 ^ 7 := Nat.pow_le_pow_right (by omega) (by omega)
        simpa using this
      by_cases hlt : n < 2 ^ k
      · exact ih (by omega) n hlt
      · have hr : n - 2 ^ k < 2 ^ k := by rw [Nat.pow_succ] at hn; omega
        have e : n = 2 ^ k ^^^ (n - 2 ^ k) := by
          have h1 : 2 ^ k * 1 + (n - 2 ^ k) = 2 ^ k * 1 ||| (n - 2 ^ k) := Nat.two_pow_add_eq_or_of_lt hr 1
          have h2 : (2 ^ k ||| (n - 2 ^ k)) = 2 ^ k ^^^ (n - 2 ^ k) := by
            apply Nat.eq_of_testBit_eq
            intro i
            rw [Nat.testBit_or, Nat.testBit_xor]
            by_cases hi : i = k
            · subst hi
              rw [Nat.testBit_lt_two_pow hr]; simp
            · rw [Nat.testBit_two_pow_of_ne (Ne.symm hi)]; simp
          rw [Nat.mul_one] at h1
          omega
        rw [e]
        exact hx _ _ (by omega) (by omega) (h2 k (by omega)) (ih (by omega) _ hr)
  exact key 8 (by omega)
theorem gmul_zero (a : Nat) : gmul a 0 = 0 := mulGo_zero 8 a 0
theorem mulGo_of_zero (f b s : Nat) : mulGo f 0 b s = s := by
  induction f generalizing b s with
  | zero => rfl
  | succ f ih =>
    unfold mulGo
    rw [show tw 0 = 0 from rfl, ih]
    split <;> simp
theorem zero_gmul (b : Nat) : gmul 0 b = 0 := mulGo_of_zero 8 b 0
theorem gmul_one (a : Nat) : gmul a 1 = a := by
  unfold gmul
  rw [show (8 : Nat) = 7 + 1 from rfl]
  unfold mulGo
  rw [if_pos (by decide), show 1 / 2 = 0 from rfl, mulGo_zero]
  simp
theorem gmul_two (a : Nat) : gmul a 2 = tw a := by
  unfold gmul
  rw [show (8 : Nat) = 6 + 1 + 1 from rfl]
  unfold mulGo
  rw [if_neg (by decide), show 2 / 2 = 1 from rfl]
  unfold mulGo
  rw [if_pos (by decide), show 1 / 2 = 0 from rfl, mulGo_zero]
  simp
theorem gmul_comm (a b : Nat) (ha : a < 256) (hb : b < 256) : gmul a b = gmul b a := by
  revert a
  refine xor_ind (fun a => gmul a b = gmul b a) ?_ ?_ ?_
  · rw [zero_gmul, gmul_zero]
  · intro k hk
    revert b
    refine xor_ind (fun b => gmul (2 ^ k) b = gmul b (2 ^ k)) ?_ ?_ ?_
    · rw [zero_gmul, gmul_zero]
    · intro j hj
      have := all2 (p := fun k j => decide (gmul (2 ^ k) (2 ^ j) = gmul (2 ^ j) (2 ^ k))) 8 (by decide +kernel) k j hk hj
      exact of_decide_eq_true this
    · intro b c hb hc h1 h2
      rw [gmul_add_right, gmul_add_left _ _ _ hb hc, h1, h2]
  · intro a c ha hc h1 h2
    rw [gmul_add_right, gmul_add_left _ _ _ ha hc, h1, h2]
theorem pow2_lt (k : Nat) (hk : k < 8) : 2 ^ k < 256 := by
  have : 2 ^ k < 2 ^ 8 := Nat.pow_lt_pow_right (by omega) hk
  simpa using this
theorem gmul_assoc (a b c : Nat) (ha : a < 256) (hb : b < 256) (hc : c < 256) : gmul (gmul a b) c = gmul a (gmul b c) := by
  revert a
  refine xor_ind (fun a => gmul (gmul a b) c = gmul a (gmul b c)) ?_ ?_ ?_
  · rw [zero_gmul, zero_gmul, zero_gmul]
  · intro k hk
    have hk' := pow2_lt k hk
    revert b
    refine xor_ind (fun b => gmul (gmul (2 ^ k) b) c = gmul (2 ^ k) (gmul b c)) ?_ ?_ ?_
    · rw [gmul_zero, zero_gmul, gmul_zero]
    · intro j hj
      have hj' := pow2_lt j hj
      revert c
      refine xor_ind (fun c => gmul (gmul (2 ^ k) (2 ^ j)) c = gmul (2 ^ k) (gmul (2 ^ j) c)) ?_ ?_ ?_
      · rw [gmul_zero, gmul_zero, gmul_zero]
      · intro i hi
        have := all1 (p := fun i => (List.range 8).all fun k => (List.range 8).all fun j => decide (gmul (gmul (2 ^ k) (2 ^ j)) (2 ^ i) = gmul (2 ^ k) (gmul (2 ^ j) (2 ^ i)))) 8 (by decide +kernel) i hi
        exact of_decide_eq_true (all2 8 this k j hk hj)
      · intro x y hx hy h1 h2
        rw [gmul_add_right, gmul_add_right, gmul_add_right, h1, h2]
    · intro x y hx hy h1 h2
      rw [gmul_add_right, gmul_add_left _ _ _ (gmul_lt _ _ hk') (gmul_lt _ _ hk'), gmul_add_left _ _ _ hx hy, gmul_add_right, h1, h2]
  · intro x y hx hy h1 h2
    rw [gmul_add_left _ _ _ hx hy, gmul_add_left _ _ _ (gmul_lt _ _ hx) (gmul_lt _ _ hy), gmul_add_left _ _ _ hx hy, h1, h2]

/-- What is done again and again: by squares. -/
def agGo : Nat → Nat → Nat → Nat → Nat
  | 0, _, _, p => p
  | f + 1, n, a, p => agGo f (n / 2) (gmul a a) (if n % 2 = 1 then gmul p a else p)
def gag (n a : Nat) : Nat := agGo 8 n a 1
theorem agGo_zero (f a p : Nat) : agGo f 0 a p = p := by
  induction f generalizing a p with
  | zero => rfl
  | succ f ih => unfold agGo; rw [if_neg (by omega)]; exact ih _ _
theorem agGo_lt (f n a p : Nat) (ha : a < 256) (hp : p < 256) : agGo f n a p < 256 := by
  induction f generalizing n a p with
  | zero => exact hp
  | succ f ih =>
    unfold agGo
    refine ih _ _ _ (gmul_lt _ _ ha) ?_
    split
    · exact gmul_lt _ _ hp
    · exact hp
def ginv (a : Nat) : Nat := if a = 0 then 0 else gag 254 a
theorem gmul_inv (a : Nat) (h : a < 256) (h0 : a ≠ 0) : gmul a (ginv a) = 1 := by
  have := all1 (p := fun a => decide (a ≠ 0 → gmul a (ginv a) = 1)) 256 (by decide +kernel) a h
  exact (of_decide_eq_true this) h0
end Go.Proofs.Ytbbanhjcchnhpaa
