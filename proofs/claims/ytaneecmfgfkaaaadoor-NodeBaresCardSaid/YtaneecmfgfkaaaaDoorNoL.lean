/- The tree's levels, plain (layer 17). -/
import Derived.Test.YtaneecmfgfkaaaaDoorSpA
namespace Go.Proofs.YtaneecmfgfkaaaaDoor
set_option linter.unusedVariables false
set_option linter.unusedSimpArgs false
/-- The text that a node's sum is of. -/
def ndT (a b : List UInt8) : List UInt8 := 1 :: (a ++ b)
def ndL (a b : List UInt8) : List UInt8 := sumL (ndT a b)
theorem ndL_len (a b : List UInt8) : (ndL a b).length = 32 := sumL_len _
def dg (l : List (List UInt8)) (i : Nat) : List UInt8 := l[i]?.getD []
theorem dg_at (l : List (List UInt8)) (i : Nat) (h : i < l.length) : dg l i = l[i] := by unfold dg; rw [List.getElem?_eq_getElem h]; rfl
theorem dg_ext (a b : List (List UInt8)) (hl : a.length = b.length) (h : ∀ i, i < a.length → dg a i = dg b i) : a = b := by
  apply List.ext_getElem hl
  intro i h1 h2
  have := h i h1
  rw [dg_at a i h1, dg_at b i h2] at this
  exact this
theorem dg_32 (l : List (List UInt8)) (h : ∀ x ∈ l, x.length = 32) (i : Nat) (hi : i < l.length) : (dg l i).length = 32 := by rw [dg_at l i hi]; exact h _ (List.getElem_mem hi)
/-- One level up. -/
def upL (l : List (List UInt8)) : List (List UInt8) := (List.range (l.length / 2)).map fun i => ndL (dg l (2 * i)) (dg l (2 * i + 1))
theorem upL_len (l : List (List UInt8)) : (upL l).length = l.length / 2 := by unfold upL; simp
theorem upL_at (l : List (List UInt8)) (i : Nat) (h : i < l.length / 2) : dg (upL l) i = ndL (dg l (2 * i)) (dg l (2 * i + 1)) := by
  unfold upL
  rw [dg, List.getElem?_map, List.getElem?_range h]
  rfl
theorem upL_32 (l : List (List UInt8)) : ∀ x ∈ upL l, x.length = 32 := fun x hx => by
  unfold upL at hx
  obtain ⟨i, _, rfl⟩ := List.mem_map.1 hx
  exact ndL_len _ _
/-- The level h above the leaves. -/
def lv : Nat → List (List UInt8) → List (List UInt8)
  | 0, l => l
  | h + 1, l => upL (lv h l)
theorem lv_succ (h : Nat) (l : List (List UInt8)) : lv (h + 1) l = upL (lv h l) := rfl
theorem lv_len (l : List (List UInt8)) : ∀ h, (lv h l).length = l.length / 2 ^ h
  | 0 => by show l.length = _; simp
  | h + 1 => by
    show (upL (lv h l)).length = _
    rw [upL_len, lv_len l h, Nat.div_div_eq_div_mul, Nat.pow_succ]
theorem lv_32 (l : List (List UInt8)) (hl : ∀ x ∈ l, x.length = 32) : ∀ h, ∀ x ∈ lv h l, x.length = 32
  | 0 => hl
  | h + 1 => upL_32 _
theorem ndT_inj (a b c d : List UInt8) (h : a.length = c.length) (e : ndT a b = ndT c d) : a = c ∧ b = d := by
  unfold ndT at e
  injection e with _ e
  exact List.append_inj e h
/-- Unlike leaves with one level somewhere above: two unlike texts of one sum. -/
theorem lv_apart (x y : List (List UInt8)) (hx : x.length = 64) (hy : y.length = 64) (hx3 : ∀ z ∈ x, z.length = 32) (hy3 : ∀ z ∈ y, z.length = 32) : ∀ h, h ≤ 6 → lv h x = lv h y →
    x = y ∨ ∃ k, k < h ∧ ∃ i, i < 64 / 2 ^ (k + 1) ∧ ndT (dg (lv k x) (2 * i)) (dg (lv k x) (2 * i + 1)) ≠ ndT (dg (lv k y) (2 * i)) (dg (lv k y) (2 * i + 1)) ∧ sumL (ndT (dg (lv k x) (2 * i)) (dg (lv k x) (2 * i + 1))) = sumL (ndT (dg (lv k y) (2 * i)) (dg (lv k y) (2 * i + 1)))
  | 0, _, e => Or.inl e
  | h + 1, hh, e => by
    by_cases e2 : lv h x = lv h y
    · rcases lv_apart x y hx hy hx3 hy3 h (by omega) e2 with q | ⟨k, hk, q⟩
      · exact Or.inl q
      · exact Or.inr ⟨k, by omega, q⟩
    · right
      have lx : (lv h x).length = 64 / 2 ^ h := by rw [lv_len, hx]
      have ly : (lv h y).length = 64 / 2 ^ h := by rw [lv_len, hy]
      have hev : 64 / 2 ^ h = 2 * (64 / 2 ^ (h + 1)) := by
        rcases (show h = 0 ∨ h = 1 ∨ h = 2 ∨ h = 3 ∨ h = 4 ∨ h = 5 by omega) with rfl | rfl | rfl | rfl | rfl | rfl <;> rfl
      have hne : ¬ ∀ i, i < 64 / 2 ^ (h + 1) → ndT (dg (lv h x) (2 * i)) (dg (lv h x) (2 * i + 1)) = ndT (dg (lv h y) (2 * i)) (dg (lv h y) (2 * i + 1)) := fun hall => by
        apply e2
        apply dg_ext _ _ (by rw [lx, ly])
        intro j hj
        rw [lx, hev] at hj
        have hj2 : j / 2 < 64 / 2 ^ (h + 1) := by omega
        have l1 := dg_32 _ (lv_32 x hx3 h) (2 * (j / 2)) (by rw [lx, hev]; omega)
        have l2 := dg_32 _ (lv_32 y hy3 h) (2 * (j / 2)) (by rw [ly, hev]; omega)
        obtain ⟨q1, q2⟩ := ndT_inj _ _ _ _ (l1.trans l2.symm) (hall (j / 2) hj2)
        rcases (show j = 2 * (j / 2) ∨ j = 2 * (j / 2) + 1 by omega) with q | q
        · rw [q]; exact q1
        · rw [q]; exact q2
      have hne2 := Classical.not_forall.1 hne
      obtain ⟨i, hi⟩ := hne2
      obtain ⟨hi1, hi2⟩ := Classical.not_imp.1 hi
      refine ⟨h, by omega, i, hi1, hi2, ?_⟩
      have u1 := upL_at (lv h x) i (by rw [lx, hev]; omega)
      have u2 := upL_at (lv h y) i (by rw [ly, hev]; omega)
      have e3 : dg (upL (lv h x)) i = dg (upL (lv h y)) i := by
        have : upL (lv h x) = upL (lv h y) := e
        rw [this]
      rw [u1, u2] at e3
      exact e3
/-- The root's sum, half by half. -/
def rootD : Nat → List (List UInt8) → List UInt8
  | 0, l => dg l 0
  | k + 1, l => ndL (rootD k (l.take (2 ^ k))) (rootD k (l.drop (2 ^ k)))
theorem dg_left (a b : List (List UInt8)) (i : Nat) (h : i < a.length) : dg (a ++ b) i = dg a i := by unfold dg; rw [List.getElem?_append_left h]
theorem dg_right (a b : List (List UInt8)) (i : Nat) : dg (a ++ b) (a.length + i) = dg b i := by unfold dg; rw [List.getElem?_append_right (by omega)]; congr 2; omega
theorem upL_app (a b : List (List UInt8)) (m : Nat) (h : a.length = 2 * m) : upL (a ++ b) = upL a ++ upL b := by
  apply dg_ext
  · rw [upL_len, List.length_append, List.length_append, upL_len, upL_len]; omega
  · intro i hi
    rw [upL_len, List.length_append] at hi
    rw [upL_at _ i (by rw [List.length_append]; omega)]
    by_cases hm : i < m
    · rw [dg_left (upL a) _ i (by rw [upL_len]; omega), upL_at a i (by omega), dg_left a b _ (by omega), dg_left a b _ (by omega)]
    · have e : i = (upL a).length + (i - m) := by rw [upL_len]; omega
      have e1 : 2 * i = a.length + 2 * (i - m) := by omega
      have e2 : 2 * i + 1 = a.length + (2 * (i - m) + 1) := by omega
      have e3 : dg (upL a ++ upL b) i = dg (upL b) (i - m) := by
        conv => lhs; rw [e]
        exact dg_right _ _ _
      rw [e3, upL_at b (i - m) (by omega), e2, e1, dg_right, dg_right]
theorem lv_app (a b : List (List UInt8)) : ∀ k m, a.length = 2 ^ k * m → lv k (a ++ b) = lv k a ++ lv k b
  | 0, _, _ => rfl
  | k + 1, m, h => by
    have h2 : a.length = 2 ^ k * (2 * m) := by rw [h, Nat.pow_succ]; exact Nat.mul_assoc _ _ _
    show upL (lv k (a ++ b)) = upL (lv k a) ++ upL (lv k b)
    rw [lv_app a b k (2 * m) h2]
    exact upL_app _ _ m (by rw [lv_len, h2, Nat.mul_div_cancel_left _ (Nat.two_pow_pos k)])
theorem lv_root : ∀ k (l : List (List UInt8)), l.length = 2 ^ k → lv k l = [rootD k l]
  | 0, l, h => by
    show l = [dg l 0]
    match l, h with
    | [x], _ => rfl
  | k + 1, l, h => by
    have hp : 2 ^ (k + 1) = 2 ^ k * 2 := Nat.pow_succ 2 k
    have h1 : (l.take (2 ^ k)).length = 2 ^ k := by rw [List.length_take, h, hp]; omega
    have h2 : (l.drop (2 ^ k)).length = 2 ^ k := by rw [List.length_drop, h, hp]; omega
    have e : lv k l = [rootD k (l.take (2 ^ k)), rootD k (l.drop (2 ^ k))] := by
      have := lv_app (l.take (2 ^ k)) (l.drop (2 ^ k)) k 1 (by rw [h1]; omega)
      rw [List.take_append_drop, lv_root k _ h1, lv_root k _ h2] at this
      exact this
    show upL (lv k l) = [ndL (rootD k (l.take (2 ^ k))) (rootD k (l.drop (2 ^ k)))]
    rw [e]
    generalize rootD k (l.take (2 ^ k)) = r1
    generalize rootD k (l.drop (2 ^ k)) = r2
    simp [upL, dg]
theorem rootD_len (l : List (List UInt8)) (hl : ∀ x ∈ l, x.length = 32) (k : Nat) (h : l.length = 2 ^ k) : (rootD k l).length = 32 := by
  have h1 := lv_root k l h
  exact lv_32 l hl k _ (by rw [h1]; simp)
end Go.Proofs.YtaneecmfgfkaaaaDoor
