/- Slots: the reference's Bytes. -/
import Derived.Test.YthhgodfgigcacaaSlS
namespace Go.Proofs.Ythhgodfgigcacaa
open Go.RowKit Go.Deep
set_option linter.unusedVariables false
set_option linter.unusedSimpArgs false
/-- A slot's four bytes. -/
def byS (s : Sl) : List UInt8 := [UInt8.ofNat (s.g + 1).toNat, UInt8.ofNat (bitN s 4), UInt8.ofNat s.l.toNat, 0]
def byT (T : Nat → Sl) : Nat → List UInt8
  | 0 => []
  | k + 1 => byT T k ++ byS (T k)
theorem byT_len (T : Nat → Sl) (k : Nat) : (byT T k).length = 4 * k := by
  induction k with
  | zero => rfl
  | succ k ih => unfold byT; rw [List.length_append, ih]; simp [byS]; omega
theorem b2n_le (b : Bool) (m : Nat) : b2n b m ≤ m := by unfold b2n; split <;> omega
theorem bitN_lt (s : Sl) (k : Nat) (hk : k ≤ 4) : bitN s k < 256 := by
  have h0 := b2n_le (s.v 0) (16 * 2 ^ 0)
  have h1 := b2n_le (s.v 1) (16 * 2 ^ 1)
  have h2 := b2n_le (s.v 2) (16 * 2 ^ 2)
  have h3 := b2n_le (s.v 3) (16 * 2 ^ 3)
  have g0 := b2n_le (s.d 0) (2 ^ 0)
  have g1 := b2n_le (s.d 1) (2 ^ 1)
  have g2 := b2n_le (s.d 2) (2 ^ 2)
  have g3 := b2n_le (s.d 3) (2 ^ 3)
  rcases (show k = 0 ∨ k = 1 ∨ k = 2 ∨ k = 3 ∨ k = 4 by omega) with rfl | rfl | rfl | rfl | rfl <;> simp only [bitN] <;> omega
theorem putL_one (n : Int) (h0 : 0 ≤ n) (h1 : n < 256) : putE n 1 = 0 ∧ putL n 1 = [UInt8.ofNat n.toNat] := by
  have he : putE n 1 = 0 := by
    unfold putE
    rw [if_pos (by decide), if_neg]
    rintro (h | ⟨_, h⟩)
    · omega
    · exact h (Int.ediv_eq_zero_of_lt h0 (by simpa using h1))
  refine ⟨he, ?_⟩
  unfold putL
  rw [if_pos he]
  show beL n 1 = _
  rw [beL_succ, beL_zero]
  unfold byteU
  rw [show (8 : Nat) * 0 = 0 from rfl, Int.pow_zero, Int.ediv_one, Int.emod_eq_of_lt h0 h1]
theorem txS_by {s : Sl} (h : SlOk s) : txS s = byS s := by
  obtain ⟨g1, g2, l1, l2⟩ := h
  have hb := bitN_lt s 4 (by omega)
  obtain ⟨e1, p1⟩ := putL_one (s.g + 1) (by omega) (by omega)
  obtain ⟨e2, p2⟩ := putL_one (bitN s 4 : Int) (by omega) (by omega)
  obtain ⟨e3, p3⟩ := putL_one s.l (by omega) (by omega)
  obtain ⟨e4, p4⟩ := putL_one 0 (by omega) (by omega)
  unfold txS numS rowL rowE rowE rowE rowE rowE
  rw [if_pos e1, if_pos e2, if_pos e3, if_pos e4, if_pos rfl]
  unfold rowB byS
  simp only [List.flatMap_cons, List.flatMap_nil, p1, p2, p3, p4, Int.toNat_natCast]
  rfl
theorem txT_by {T : Nat → Sl} (h : ∀ k, SlOk (T k)) (k : Nat) : txT T k = byT T k := by
  induction k with
  | zero => rfl
  | succ k ih => unfold txT byT; rw [ih, txS_by (h k)]
theorem byS_fr : byS frS = [0, 0, 0, 0] := by decide
theorem byT_free {T : Nat → Sl} {n : Nat} (h : ∀ k, n ≤ k → T k = frS) (m : Nat) : byT T (n + m) = byT T n ++ List.replicate (4 * m) 0 := by
  induction m with
  | zero => simp
  | succ m ih =>
    show byT T (n + m) ++ byS (T (n + m)) = _
    rw [ih, h (n + m) (by omega), byS_fr, List.append_assoc]
    congr 1
    rw [show 4 * (m + 1) = 4 * m + 4 by omega, ← List.replicate_append_replicate]
    rfl
/-- A table's text is its slots' bytes, made longer. -/
theorem text_eq {T : Nat → Sl} {n : Nat} (h : Inv n T) (h8 : n ≤ 8) : txT T 8 ++ List.replicate 16 0 = zpadL (byT T n) 48 := by
  rw [txT_by h.ok]
  have h2 := byT_free h.can (8 - n)
  rw [show n + (8 - n) = 8 by omega] at h2
  rw [h2]
  unfold zpadL
  rw [byT_len, List.append_assoc, List.replicate_append_replicate]
  congr 2
  omega
theorem wrap_u8 (n : Int) (h0 : 0 ≤ n) (h1 : n < 256) : IntKind.u8.wrap n = n := by rw [IntKind.wrap_u8']; omega
theorem byS_vals {s : Sl} (h : SlOk s) : (byS s).map (fun b => Value.int .u8 (b.toNat : Int)) = [.int .u8 (s.g + 1), .int .u8 (bitN s 4 : Int), .int .u8 s.l, .int .u8 0] := by
  obtain ⟨g1, g2, l1, l2⟩ := h
  have hb := bitN_lt s 4 (by omega)
  have key : ∀ m : Nat, m < 256 → (UInt8.ofNat m).toNat = m := fun m hm => by rw [UInt8.toNat_ofNat']; omega
  unfold byS
  simp only [List.map_cons, List.map_nil, key (s.g + 1).toNat (by omega), key _ hb, key s.l.toNat (by omega)]
  rw [Int.toNat_of_nonneg (by omega), Int.toNat_of_nonneg l1]
  rfl
end Go.Proofs.Ythhgodfgigcacaa
