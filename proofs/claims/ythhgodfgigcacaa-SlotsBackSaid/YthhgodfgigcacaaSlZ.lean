/- Package slots: what may be a table. -/
import Derived.Test.YthhgodfgigcacaaSlY
namespace Go.Proofs.Ythhgodfgigcacaa
open Go.RowKit Go.Deep
set_option linter.unusedVariables false
set_option linter.unusedSimpArgs false
def XR (s : ByteArray) (k : Nat) : Sl := pS (bt s (4 * k)) (bt s (4 * k + 1)) (bt s (4 * k + 2))
def okR (s : ByteArray) (k : Nat) : Bool := okP (bt s (4 * k)) (bt s (4 * k + 1)) (bt s (4 * k + 2)) (bt s (4 * k + 3))
def okQ (b0 b1 b2 : Nat) : Bool := dvB b1 && decide (b0 ≤ 16) && decide (b2 < 4) && (decide (b0 ≠ 0) || decide (pS b0 b1 b2 = frS))
def okS (s : ByteArray) (k : Nat) : Bool := okQ (bt s (4 * k)) (bt s (4 * k + 1)) (bt s (4 * k + 2))
def newR (s : ByteArray) (k : Nat) : Prop := 0 ≤ (XR s k).g → ∀ j, j < k → (XR s j).g ≠ (XR s k).g
structure accP (n : Nat) (s : ByteArray) : Prop where
  size : s.size = 48
  one : ∀ k, k < n → okS s k = true ∧ bt s (4 * k + 3) = 0 ∧ newR s k
  zero : ∀ i, 4 * n ≤ i → i < 48 → bt s i = 0
theorem okP_Q (b0 b1 b2 b3 : Nat) : okP b0 b1 b2 b3 = true ↔ okQ b0 b1 b2 = true ∧ b3 = 0 := by
  unfold okP okQ
  simp only [Bool.and_eq_true, decide_eq_true_eq]
  constructor
  · rintro ⟨⟨⟨⟨a, b⟩, c⟩, d⟩, e⟩; exact ⟨⟨⟨⟨a, c⟩, d⟩, e⟩, b⟩
  · rintro ⟨⟨⟨⟨a, c⟩, d⟩, e⟩, b⟩; exact ⟨⟨⟨⟨a, b⟩, c⟩, d⟩, e⟩
theorem pS_zero : pS 0 0 0 = frS := by decide
theorem pS_fr {b0 b1 b2 : Nat} (h1 : b1 < 256) (h : pS b0 b1 b2 = frS) : b0 = 0 ∧ b1 = 0 ∧ b2 = 0 := by
  have hb := bitN_pS b0 b1 b2 h1
  rw [h] at hb
  have h0 : (pS b0 b1 b2).g = -1 := by rw [h]; rfl
  have h2 : (pS b0 b1 b2).l = 0 := by rw [h]; rfl
  have e0 : (b0 : Int) - 1 = -1 := h0
  have e2 : (b2 : Int) = 0 := h2
  exact ⟨by omega, by rw [← hb]; decide, by omega⟩
theorem okQ_cases {b0 b1 b2 : Nat} (h : okQ b0 b1 b2 = true) : dvB b1 = true ∧ b0 ≤ 16 ∧ b2 < 4 ∧ (b0 ≠ 0 ∨ pS b0 b1 b2 = frS) := by
  unfold okQ at h
  simp only [Bool.and_eq_true, Bool.or_eq_true, decide_eq_true_eq] at h
  exact ⟨h.1.1.1, h.1.1.2, h.1.2, h.2⟩
theorem okQ_ok {b0 b1 b2 : Nat} (h : okQ b0 b1 b2 = true) : SlOk (pS b0 b1 b2) := by
  obtain ⟨_, h0, h2, _⟩ := okQ_cases h
  exact ⟨by show (-1 : Int) ≤ (b0 : Int) - 1; omega, by show (b0 : Int) - 1 ≤ 15; omega, by show (0 : Int) ≤ (b2 : Int); omega, by show (b2 : Int) ≤ 3; omega⟩
theorem okQ_neg {b0 b1 b2 : Nat} (h : okQ b0 b1 b2 = true) (hg : (pS b0 b1 b2).g < 0) : pS b0 b1 b2 = frS := by
  obtain ⟨_, h0, h2, h3⟩ := okQ_cases h
  have : (b0 : Int) - 1 < 0 := hg
  rcases h3 with h3 | h3
  · omega
  · exact h3
theorem dvB_dv {b0 b1 b2 : Nat} (h : dvB b1 = true) : ∀ j, (pS b0 b1 b2).d j = true → (pS b0 b1 b2).v j = true := by
  unfold dvB at h
  simp only [Bool.and_eq_true, Bool.or_eq_true, Bool.not_eq_true'] at h
  obtain ⟨⟨⟨h0, h1⟩, h2⟩, h3⟩ := h
  intro j hj
  unfold Sl.d Sl.v pS at *
  split at hj <;> simp_all
theorem accP.all {n : Nat} {s : ByteArray} (h : accP n s) (k : Nat) (hk : k < 8) : okR s k = true ∧ (n ≤ k → XR s k = frS) := by
  by_cases hn : k < n
  · obtain ⟨a, b, _⟩ := h.one k hn
    exact ⟨(okP_Q _ _ _ _).2 ⟨a, b⟩, fun x => absurd hn (by omega)⟩
  · have z0 := h.zero (4 * k) (by omega) (by omega)
    have z1 := h.zero (4 * k + 1) (by omega) (by omega)
    have z2 := h.zero (4 * k + 2) (by omega) (by omega)
    have z3 := h.zero (4 * k + 3) (by omega) (by omega)
    unfold okR XR
    rw [z0, z1, z2, z3]
    exact ⟨by decide, fun _ => by decide⟩
theorem accP.of {n : Nat} {s : ByteArray} (hs : s.size = 48) (h8 : n ≤ 8) (h1 : ∀ k, k < 8 → okR s k = true ∧ (n ≤ k → XR s k = frS) ∧ (k < n → newR s k)) (h2 : ∀ i, 32 ≤ i → i < 48 → bt s i = 0) : accP n s := by
  refine ⟨hs, fun k hk => ?_, fun i h3 h4 => ?_⟩
  · obtain ⟨a, b, c⟩ := h1 k (by omega)
    obtain ⟨d, e⟩ := (okP_Q _ _ _ _).1 a
    exact ⟨d, e, c hk⟩
  · by_cases h5 : 32 ≤ i
    · exact h2 i h5 h4
    · obtain ⟨a, b, c⟩ := h1 (i / 4) (by omega)
      obtain ⟨_, e⟩ := (okP_Q _ _ _ _).1 a
      obtain ⟨f0, f1, f2⟩ := pS_fr (bt_lt s (4 * (i / 4) + 1)) (b (by omega))
      rcases (show i = 4 * (i / 4) ∨ i = 4 * (i / 4) + 1 ∨ i = 4 * (i / 4) + 2 ∨ i = 4 * (i / 4) + 3 by omega) with q | q | q | q <;> rw [q] <;> assumption
/-- The table that is read. -/
def TR (s : ByteArray) (k : Nat) : Nat → Sl := fun j => if j < k then XR s j else frS
theorem accP.inv {n : Nat} {s : ByteArray} (h : accP n s) : Inv n (TR s n) := by
  refine ⟨fun k => ?_, fun k hk => ?_, fun k j hd => ?_, fun i k he hg => ?_, fun k hk => by unfold TR; rw [if_neg (by omega)]⟩
  · unfold TR
    split
    · rename_i q; exact okQ_ok (h.one k q).1
    · exact frS_ok
  · unfold TR at *
    split
    · rename_i q
      rw [if_pos q] at hk
      exact okQ_neg (h.one k q).1 hk
    · rfl
  · unfold TR at *
    split at hd
    · rename_i q; rw [if_pos q]; exact dvB_dv (okQ_cases (h.one k q).1).1 j hd
    · rw [frS_d] at hd; exact absurd hd (by simp)
  · unfold TR at *
    by_cases q1 : i < n
    · by_cases q2 : k < n
      · rw [if_pos q1] at he hg
        rw [if_pos q2] at he
        rcases (show i = k ∨ i < k ∨ k < i by omega) with e | e | e
        · exact e
        · exact absurd he ((h.one k q2).2.2 (by rw [← he]; exact hg) i e)
        · exact absurd he.symm ((h.one i q1).2.2 hg k e)
      · rw [if_pos q1] at he hg
        rw [if_neg q2] at he
        rw [he] at hg
        exact absurd hg (by decide)
    · rw [if_neg q1] at hg
      exact absurd hg (by decide)
theorem accP.tab {n : Nat} {s : ByteArray} (h : accP n s) (k : Nat) (hk : k < 8) : TR s 8 k = TR s n k := by
  unfold TR
  rw [if_pos hk]
  split
  · rfl
  · exact (h.all k hk).2 (by omega)
theorem byT_at (T : Nat → Sl) : ∀ (n k j : Nat), k < n → j < 4 → (byT T n)[4 * k + j]? = (byS (T k))[j]?
  | 0, k, j, h, _ => absurd h (by omega)
  | n + 1, k, j, h, hj => by
    unfold byT
    by_cases e : k < n
    · rw [List.getElem?_append_left (by rw [byT_len]; omega)]
      exact byT_at T n k j e hj
    · obtain rfl : k = n := by omega
      rw [List.getElem?_append_right (by rw [byT_len]; omega), byT_len, show 4 * k + j - 4 * k = j by omega]
theorem byS_pS (b0 b1 b2 : Nat) (h : b1 < 256) : byS (pS b0 b1 b2) = [UInt8.ofNat b0, UInt8.ofNat b1, UInt8.ofNat b2, 0] := by
  unfold byS
  rw [bitN_pS b0 b1 b2 h, show ((pS b0 b1 b2).g + 1).toNat = b0 from by show ((b0 : Int) - 1 + 1).toNat = b0; omega, show (pS b0 b1 b2).l.toNat = b2 from by show ((b2 : Int)).toNat = b2; omega]
theorem bt_of (s : ByteArray) (i : Nat) (hi : i < s.size) : s.data.toList[i]? = some (UInt8.ofNat (bt s i)) := by
  have hk : i < s.data.toList.length := by rw [← Lib.size_eq]; exact hi
  unfold bt
  rw [List.getElem?_eq_getElem hk, Option.getD_some, UInt8.ofNat_toNat]
theorem of8 {a : Nat} (h : a < 256) (e : UInt8.ofNat a = 0) : a = 0 := by
  have := congrArg UInt8.toNat e
  rw [UInt8.toNat_ofNat_of_lt' h] at this
  exact this
theorem text_acc {n : Nat} {s : ByteArray} (hs : s.size = 48) (h8 : n ≤ 8) : (⟨(zpadL (byT (TR s n) n) 48).toArray⟩ : ByteArray) = s ↔ (∀ k, k < n → bt s (4 * k + 3) = 0) ∧ ∀ i, 4 * n ≤ i → i < 48 → bt s i = 0 := by
  have hlen := byT_len (TR s n) n
  have hz : ∀ i, 4 * n ≤ i → i < 48 → (zpadL (byT (TR s n) n) 48)[i]? = some 0 := fun i h1 h2 => by
    unfold zpadL
    rw [List.getElem?_append_right (by omega), List.getElem?_replicate, if_pos (by omega)]
  have hk : ∀ k j, k < n → j < 4 → (zpadL (byT (TR s n) n) 48)[4 * k + j]? = ([UInt8.ofNat (bt s (4 * k)), UInt8.ofNat (bt s (4 * k + 1)), UInt8.ofNat (bt s (4 * k + 2)), 0] : List UInt8)[j]? := fun k j h1 h2 => by
    unfold zpadL
    rw [List.getElem?_append_left (by omega), byT_at _ n k j h1 h2, show TR s n k = XR s k from by unfold TR; rw [if_pos h1]]
    unfold XR
    rw [byS_pS _ _ _ (bt_lt s _)]
  constructor
  · intro h
    have h' : s.data.toList = zpadL (byT (TR s n) n) 48 := (congrArg (fun x : ByteArray => x.data.toList) h).symm
    refine ⟨fun k h1 => ?_, fun i h1 h2 => ?_⟩
    · have a := bt_of s (4 * k + 3) (by omega)
      rw [h', hk k 3 h1 (by omega)] at a
      exact of8 (bt_lt s _) (Option.some.inj a).symm
    · have a := bt_of s i (by omega)
      rw [h', hz i h1 h2] at a
      exact of8 (bt_lt s _) (Option.some.inj a).symm
  · rintro ⟨h3, h4⟩
    apply ByteArray.ext
    apply Array.ext'
    show zpadL (byT (TR s n) n) 48 = s.data.toList
    apply List.ext_getElem?
    intro i
    by_cases hi : i < 48
    · rw [bt_of s i (by omega)]
      by_cases h5 : 4 * n ≤ i
      · rw [hz i h5 hi, h4 i h5 hi]; rfl
      · obtain ⟨k, j, hj, rfl⟩ : ∃ k j, j < 4 ∧ i = 4 * k + j := ⟨i / 4, i % 4, by omega, by omega⟩
        rw [hk k j (by omega) hj]
        rcases (show j = 0 ∨ j = 1 ∨ j = 2 ∨ j = 3 by omega) with rfl | rfl | rfl | rfl
        · rfl
        · rfl
        · rfl
        · rw [h3 k (by omega)]; rfl
    · rw [List.getElem?_eq_none (by unfold zpadL; rw [List.length_append, List.length_replicate, hlen]; omega), List.getElem?_eq_none (by rw [← Lib.size_eq]; omega)]
theorem accP.text {n : Nat} {s : ByteArray} (h : accP n s) (h8 : n ≤ 8) : (⟨(zpadL (byT (TR s n) n) 48).toArray⟩ : ByteArray) = s := (text_acc h.size h8).2 ⟨fun k hk => (h.one k hk).2.1, h.zero⟩
theorem fnd_new {s : ByteArray} {n k : Nat} (hk : k ≤ n) (h8 : n ≤ 8) (hg : grpB (XR s k).g = true) : fndO (TR s k) n (XR s k).g = none ↔ newR s k := by
  unfold fndO
  rw [if_pos hg]
  unfold grpB at hg
  have hg := of_decide_eq_true hg
  constructor
  · intro h _ j hj e
    cases hq : fstO (fun s_1 => decide (s_1.g = (XR s k).g)) (TR s k) n with
    | none =>
      unfold fstO at hq
      have := List.find?_eq_none.1 hq j (List.mem_range.2 (by omega))
      unfold TR at this
      rw [if_pos hj] at this
      exact this (decide_eq_true e)
    | some i => rw [hq] at h; exact absurd h (by simp)
  · intro h
    refine fst_none (P := fun s_1 : Sl => decide (s_1.g = (XR s k).g)) (fun j hj => ?_)
    unfold TR
    split
    · rename_i q
      exact decide_eq_false (h hg.1 j q)
    · refine decide_eq_false (fun e => ?_)
      rw [← e] at hg
      exact absurd hg.1 (by decide)
end Go.Proofs.Ythhgodfgigcacaa
