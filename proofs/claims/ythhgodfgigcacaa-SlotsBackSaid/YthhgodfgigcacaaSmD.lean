/- Package slots: a table's bytes are a table. -/
import Derived.Test.YthhgodfgigcacaaSmC
namespace Go.Proofs.Ythhgodfgigcacaa
open Go.RowKit Go.Deep
set_option linter.unusedVariables false
set_option linter.unusedSimpArgs false
theorem tb_bits : ∀ a b c d e f g h : Bool, tb (bitN ⟨0, a, b, c, d, e, f, g, h, 0⟩ 4) 4 = a ∧ tb (bitN ⟨0, a, b, c, d, e, f, g, h, 0⟩ 4) 5 = b ∧ tb (bitN ⟨0, a, b, c, d, e, f, g, h, 0⟩ 4) 6 = c ∧ tb (bitN ⟨0, a, b, c, d, e, f, g, h, 0⟩ 4) 7 = d ∧ tb (bitN ⟨0, a, b, c, d, e, f, g, h, 0⟩ 4) 0 = e ∧ tb (bitN ⟨0, a, b, c, d, e, f, g, h, 0⟩ 4) 1 = f ∧ tb (bitN ⟨0, a, b, c, d, e, f, g, h, 0⟩ 4) 2 = g ∧ tb (bitN ⟨0, a, b, c, d, e, f, g, h, 0⟩ 4) 3 = h := by decide +kernel
theorem tb_sl (s : Sl) : tb (bitN s 4) 4 = s.v0 ∧ tb (bitN s 4) 5 = s.v1 ∧ tb (bitN s 4) 6 = s.v2 ∧ tb (bitN s 4) 7 = s.v3 ∧ tb (bitN s 4) 0 = s.d0 ∧ tb (bitN s 4) 1 = s.d1 ∧ tb (bitN s 4) 2 = s.d2 ∧ tb (bitN s 4) 3 = s.d3 := tb_bits s.v0 s.v1 s.v2 s.v3 s.d0 s.d1 s.d2 s.d3
theorem pS_back {s : Sl} (h : SlOk s) : pS (s.g + 1).toNat (bitN s 4) s.l.toNat = s := by
  obtain ⟨g1, g2, l1, l2⟩ := h
  obtain ⟨a, b, c, d, e, f, g, i⟩ := tb_sl s
  unfold pS
  rw [a, b, c, d, e, f, g, i, Int.toNat_of_nonneg (by omega), Int.toNat_of_nonneg l1, Int.add_sub_cancel]
theorem okQ_back {n k : Nat} {T : Nat → Sl} (h : Inv n T) : okQ ((T k).g + 1).toNat (bitN (T k) 4) (T k).l.toNat = true := by
  obtain ⟨g1, g2, l1, l2⟩ := h.ok k
  obtain ⟨a, b, c, d, e, f, g, i⟩ := tb_sl (T k)
  have d0 := h.dv k 0
  have d1 := h.dv k 1
  have d2 := h.dv k 2
  have d3 := h.dv k 3
  have hdv : dvB (bitN (T k) 4) = true := by
    unfold dvB
    rw [a, b, c, d, e, f, g, i]
    unfold Sl.d Sl.v at d0 d1 d2 d3
    simp only at d0 d1 d2 d3
    cases q0 : (T k).d0 <;> cases q1 : (T k).d1 <;> cases q2 : (T k).d2 <;> cases q3 : (T k).d3 <;> simp_all
  unfold okQ
  rw [hdv, pS_back (h.ok k)]
  by_cases hg : (T k).g < 0
  · rw [decide_eq_true (h.fr k hg)]
    simp
    omega
  · simp
    omega
theorem inv_acc {n : Nat} {T : Nat → Sl} (h : Inv n T) (h8 : n ≤ 8) (S : ByteArray) (hS : (⟨(zpadL (byT T n) 48).toArray⟩ : ByteArray) = S) : accP n S ∧ ∀ k, TR S n k = T k := by
  have hl : S.data.toList = zpadL (byT T n) 48 := by rw [← hS]
  have hlen := byT_len T n
  have hsz : S.size = 48 := by
    rw [Lib.size_eq, hl]
    unfold zpadL
    rw [List.length_append, List.length_replicate, hlen]
    omega
  have hk : ∀ k j, k < n → j < 4 → S.data.toList[4 * k + j]? = (byS (T k))[j]? := fun k j h1 h2 => by
    rw [hl]
    unfold zpadL
    rw [List.getElem?_append_left (by omega), byT_at _ n k j h1 h2]
  have hz : ∀ i, 4 * n ≤ i → i < 48 → bt S i = 0 := fun i h1 h2 => by
    unfold bt
    rw [hl]
    unfold zpadL
    rw [List.getElem?_append_right (by omega), List.getElem?_replicate, if_pos (by omega)]
    rfl
  have h256 : ∀ m : Nat, m < 256 → (UInt8.ofNat m).toNat = m := fun m hm => by rw [UInt8.toNat_ofNat']; omega
  have hb : ∀ k, k < n → bt S (4 * k) = ((T k).g + 1).toNat ∧ bt S (4 * k + 1) = bitN (T k) 4 ∧ bt S (4 * k + 2) = (T k).l.toNat ∧ bt S (4 * k + 3) = 0 := fun k h1 => by
    obtain ⟨g1, g2, l1, l2⟩ := h.ok k
    have hb4 := bitN_lt (T k) 4 (by omega)
    have a0 := hk k 0 h1 (by omega)
    have a1 := hk k 1 h1 (by omega)
    have a2 := hk k 2 h1 (by omega)
    have a3 := hk k 3 h1 (by omega)
    rw [Nat.add_zero] at a0
    unfold bt
    rw [a0, a1, a2, a3]
    exact ⟨h256 _ (by omega), h256 _ hb4, h256 _ (by omega), rfl⟩
  have hx : ∀ k, k < n → XR S k = T k := fun k h1 => by
    obtain ⟨b0, b1, b2, _⟩ := hb k h1
    unfold XR
    rw [b0, b1, b2]
    exact pS_back (h.ok k)
  refine ⟨⟨hsz, fun k h1 => ?_, hz⟩, fun k => ?_⟩
  · obtain ⟨b0, b1, b2, b3⟩ := hb k h1
    refine ⟨?_, b3, ?_⟩
    · unfold okS
      rw [b0, b1, b2]
      exact okQ_back h
    · intro h0 j hj e
      rw [hx k h1] at h0 e
      rw [hx j (by omega)] at e
      have := h.one j k e (by rw [e]; exact h0)
      omega
  · unfold TR
    split
    · rename_i q; exact hx k q
    · exact (h.can k (by omega)).symm
theorem back_text {n : Nat} {T : Nat → Sl} (h : Inv n T) (h8 : n ≤ 8) : ∃ S, (⟨(txT T 8 ++ List.replicate 16 0).toArray⟩ : ByteArray) = S ∧ accP n S ∧ ∀ k, TR S n k = T k :=
  ⟨_, rfl, inv_acc h h8 _ (by rw [text_eq h h8])⟩
end Go.Proofs.Ythhgodfgigcacaa
