/- Pure facts: a tally in parts. -/
import Derived.Test.YtnbmpackjgffaaaTaK
namespace Go.Proofs.Ytnbmpackjgffaaa
open Go.RowKit Go.Deep
set_option linter.unusedVariables false
theorem cnt_split (p : Nat → Bool) (k : Nat) : ∀ r, cnt p (k + r) = cnt p k + cnt (fun i => p (k + i)) r
  | 0 => by simp [cnt]
  | r + 1 => by
    rw [← Nat.add_assoc]
    simp only [cnt]
    rw [cnt_split p k r]
    omega
theorem bsum_bd (K E : Nat → Int) (S : Nat → ByteArray) : ∀ n, -9223372036854775808 ≤ bsum K E S n ∧ bsum K E S n ≤ 9223372036854775807
  | 0 => by simp [bsum]
  | n + 1 => by
    have := bsum_bd K E S n
    unfold bsum
    split
    · unfold wrap64; omega
    · exact this
theorem bsum_split (K E : Nat → Int) (S : Nat → ByteArray) (k : Nat) : ∀ r, bsum K E S (k + r) = wrap64 (bsum K E S k + bsum (fun i => K (k + i)) (fun i => E (k + i)) (fun i => S (k + i)) r)
  | 0 => by
    have := bsum_bd K E S k
    show bsum K E S k = wrap64 (bsum K E S k + 0)
    unfold wrap64; omega
  | r + 1 => by
    have h := bsum_split K E S k r
    rw [← Nat.add_assoc]
    simp only [bsum]
    have hR : isRd (fun i => K (k + i)) (fun i => E (k + i)) r = isRd K E (k + r) := rfl
    rw [hR]
    by_cases e : isRd K E (k + r) = true
    · rw [if_pos e, if_pos e, h]
      unfold wrap64
      omega
    · rw [if_neg e, if_neg e, h]
def rx (q : Nat) (X Y : Int) : Int := if q = 0 then X else if q = 1 then -Y else if q = 2 then -X else Y
def ry (q : Nat) (X Y : Int) : Int := if q = 0 then Y else if q = 1 then X else if q = 2 then -Y else -X
theorem q4 (q : Nat) (h : q < 4) : q = 0 ∨ q = 1 ∨ q = 2 ∨ q = 3 := by omega
theorem qx_turn (q j : Nat) (hq : q < 4) (hj : j < 4) : qx ((q + j) % 4) = rx q (qx j) (qy j) := by
  rcases q4 q hq with rfl | rfl | rfl | rfl <;> rcases q4 j hj with rfl | rfl | rfl | rfl <;> rfl
theorem qy_turn (q j : Nat) (hq : q < 4) (hj : j < 4) : qy ((q + j) % 4) = ry q (qx j) (qy j) := by
  rcases q4 q hq with rfl | rfl | rfl | rfl <;> rcases q4 j hj with rfl | rfl | rfl | rfl <;> rfl
theorem rx_add (q : Nat) (a b c d : Int) : rx q (a + c) (b + d) = rx q a b + rx q c d := by unfold rx; split <;> (try split) <;> (try split) <;> omega
theorem ry_add (q : Nat) (a b c d : Int) : ry q (a + c) (b + d) = ry q a b + ry q c d := by unfold ry; split <;> (try split) <;> (try split) <;> omega
theorem bx_split (K E : Nat → Int) (k : Nat) : ∀ r, bx_ qx K E (k + r) = bx_ qx K E k + rx (k % 4) (bx_ qx (fun i => K (k + i)) (fun i => E (k + i)) r) (bx_ qy (fun i => K (k + i)) (fun i => E (k + i)) r)
  | 0 => by
    have : rx (k % 4) 0 0 = 0 := by unfold rx; split <;> (try split) <;> (try split) <;> rfl
    show bx_ qx K E k = bx_ qx K E k + rx (k % 4) 0 0
    rw [this]; omega
  | r + 1 => by
    have h := bx_split K E k r
    rw [← Nat.add_assoc]
    simp only [bx_]
    have hR : isRd (fun i => K (k + i)) (fun i => E (k + i)) r = isRd K E (k + r) := rfl
    rw [hR, rx_add, h]
    by_cases e : isRd K E (k + r) = true
    · rw [if_pos e, if_pos e, if_pos e, ← qx_turn (k % 4) (r % 4) (by omega) (by omega), show (k % 4 + r % 4) % 4 = (k + r) % 4 by omega]
      omega
    · rw [if_neg e, if_neg e, if_neg e]
      have : rx (k % 4) 0 0 = 0 := by unfold rx; split <;> (try split) <;> (try split) <;> rfl
      rw [this]; omega
theorem by_split (K E : Nat → Int) (k : Nat) : ∀ r, bx_ qy K E (k + r) = bx_ qy K E k + ry (k % 4) (bx_ qx (fun i => K (k + i)) (fun i => E (k + i)) r) (bx_ qy (fun i => K (k + i)) (fun i => E (k + i)) r)
  | 0 => by
    have : ry (k % 4) 0 0 = 0 := by unfold ry; split <;> (try split) <;> (try split) <;> rfl
    show bx_ qy K E k = bx_ qy K E k + ry (k % 4) 0 0
    rw [this]; omega
  | r + 1 => by
    have h := by_split K E k r
    rw [← Nat.add_assoc]
    simp only [bx_]
    have hR : isRd (fun i => K (k + i)) (fun i => E (k + i)) r = isRd K E (k + r) := rfl
    rw [hR, ry_add, h]
    by_cases e : isRd K E (k + r) = true
    · rw [if_pos e, if_pos e, if_pos e, ← qy_turn (k % 4) (r % 4) (by omega) (by omega), show (k % 4 + r % 4) % 4 = (k + r) % 4 by omega]
      omega
    · rw [if_neg e, if_neg e, if_neg e]
      have : ry (k % 4) 0 0 = 0 := by unfold ry; split <;> (try split) <;> (try split) <;> rfl
      rw [this]; omega
theorem turn_fi (q : Nat) (hq : q < 4) (X Y : Int) (hX : X.natAbs < 9007199254740992) (hY : Y.natAbs < 9007199254740992) : Val (turnF q (fi X, fi Y)).1 (rx q X Y) ∧ Val (turnF q (fi X, fi Y)).2 (ry q X Y) := by
  have x0 := fi_Val hX
  have y0 := fi_Val hY
  have x1 := fneg_Val x0 (fi_fin hX)
  have y1 := fneg_Val y0 (fi_fin hY)
  have y2 : Val (fneg (fneg (fi Y))) Y := by rw [fneg_neg]; exact y0
  rcases q4 q hq with rfl | rfl | rfl | rfl
  · exact ⟨x0, y0⟩
  · exact ⟨y1, x0⟩
  · exact ⟨x1, y1⟩
  · exact ⟨y2, x1⟩
/-- The first part and the second one, added, are the whole. -/
theorem parts_add (K E : Nat → Int) (S : Nat → ByteArray) (k r : Nat) (C : Tl) (hr : k + r ≤ 4503599627370496) (h : AddTo (tl K E S k) (tl (fun i => K (k + i)) (fun i => E (k + i)) (fun i => S (k + i)) r) (k % 4) C) :
    eqRow (tl K E S (k + r)).a C.a 24 = true ∧ eqRow (tl K E S (k + r)).e C.e 32 = true ∧ C.b = (tl K E S (k + r)).b ∧ C.x = fi (bx_ qx K E (k + r)) ∧ C.y = fi (bx_ qy K E (k + r)) := by
  obtain ⟨h1, h2, h3, h4, h5⟩ := h
  refine ⟨(eqRow_iff _ _ _).2 fun j hj => ?_, (eqRow_iff _ _ _).2 fun j hj => ?_, ?_, ?_, ?_⟩
  · rw [h1]
    show _ = addTo _ _ 24 j
    unfold addTo
    rw [if_pos hj]
    show cnt (fun i => decide (kindI (K i) = (j : Int))) (k + r) = wrap64 (cnt (fun i => decide (kindI (K i) = (j : Int))) k + cnt (fun i => decide (kindI (K (k + i)) = (j : Int))) r)
    rw [cnt_split]
    have a1 := cnt_bd (fun i => decide (kindI (K i) = (j : Int))) k
    have a2 := cnt_bd (fun i => decide (kindI (K (k + i)) = (j : Int))) r
    unfold wrap64
    omega
  · rw [h2]
    show _ = addTo _ _ 32 j
    unfold addTo
    rw [if_pos hj]
    show cnt (fun i => decide (errI (E i) = (j : Int))) (k + r) = wrap64 (cnt (fun i => decide (errI (E i) = (j : Int))) k + cnt (fun i => decide (errI (E (k + i)) = (j : Int))) r)
    rw [cnt_split]
    have a1 := cnt_bd (fun i => decide (errI (E i) = (j : Int))) k
    have a2 := cnt_bd (fun i => decide (errI (E (k + i)) = (j : Int))) r
    unfold wrap64
    omega
  · rw [h3]
    exact (bsum_split K E S k r).symm
  · have a1 := bx_bd qx qx_bd K E k
    have a2 := bx_bd qx qx_bd (fun i => K (k + i)) (fun i => E (k + i)) r
    have a3 := bx_bd qy qy_bd (fun i => K (k + i)) (fun i => E (k + i)) r
    have a4 := bx_bd qx qx_bd K E (k + r)
    have := turn_fi (k % 4) (by omega) _ _ (show (bx_ qx (fun i => K (k + i)) (fun i => E (k + i)) r).natAbs < 9007199254740992 by omega) (show (bx_ qy (fun i => K (k + i)) (fun i => E (k + i)) r).natAbs < 9007199254740992 by omega)
    have e := bx_split K E k r
    rw [e]
    exact fadd_fi (by omega) (by rw [← e]; omega) this.1 h4
  · have a1 := bx_bd qy qy_bd K E k
    have a2 := bx_bd qx qx_bd (fun i => K (k + i)) (fun i => E (k + i)) r
    have a3 := bx_bd qy qy_bd (fun i => K (k + i)) (fun i => E (k + i)) r
    have a4 := bx_bd qy qy_bd K E (k + r)
    have := turn_fi (k % 4) (by omega) _ _ (show (bx_ qx (fun i => K (k + i)) (fun i => E (k + i)) r).natAbs < 9007199254740992 by omega) (show (bx_ qy (fun i => K (k + i)) (fun i => E (k + i)) r).natAbs < 9007199254740992 by omega)
    have e := by_split K E k r
    rw [e]
    exact fadd_fi (by omega) (by rw [← e]; omega) this.2 h5
/-- The address of a slice's part from k on. -/
def subA (ao : Option Addr) (c k sz : Nat) : Option Addr := if c = k then ao else ao.map (·.add (k * sz))
theorem ActsAt.take {w : World} {ao : Option Addr} {n k : Nat} {K : Nat → Int} (h : ActsAt w ao n K) (hk : k ≤ n) : ActsAt w ao k K := fun hp => by
  obtain ⟨b, off, rfl, hlt, hall⟩ := h (by omega)
  exact ⟨b, off, rfl, hlt, fun i hi => hall i (by omega)⟩
theorem ToldAt.take {w : World} {ao : Option Addr} {n k : Nat} {E : Nat → Int} {S : Nat → ByteArray} (h : ToldAt w ao n E S) (hk : k ≤ n) : ToldAt w ao k E S := fun hp => by
  obtain ⟨b, off, rfl, hlt, hall⟩ := h (by omega)
  exact ⟨b, off, rfl, hlt, fun i hi => hall i (by omega)⟩
theorem ActsAt.sub {w : World} {ao : Option Addr} {n c k N : Nat} {K : Nat → Int} (h : ActsAt w ao n K) (hk : k ≤ N) (hN : N ≤ n) (hc : n ≤ c) : ActsAt w (subA ao c k 11) (N - k) (fun i => K (k + i)) := fun hp => by
  obtain ⟨b, off, rfl, hlt, hall⟩ := h (by omega)
  have hs : subA (some ⟨b, off, none⟩) c k 11 = some ⟨b, off + k * 11, none⟩ := by
    unfold subA
    rw [if_neg (by omega)]
    show some (Addr.add _ _) = _
    rw [Addr.add_lit]
  refine ⟨b, off + k * 11, hs, hlt, fun i hi => ?_⟩
  have := hall (k + i) (by omega)
  rw [show off + (k + i) * 11 = off + k * 11 + i * 11 by omega] at this
  exact this
theorem ToldAt.sub {w : World} {ao : Option Addr} {n c k N : Nat} {E : Nat → Int} {S : Nat → ByteArray} (h : ToldAt w ao n E S) (hk : k ≤ N) (hN : N ≤ n) (hc : n ≤ c) : ToldAt w (subA ao c k 3) (N - k) (fun i => E (k + i)) (fun i => S (k + i)) := fun hp => by
  obtain ⟨b, off, rfl, hlt, hall⟩ := h (by omega)
  have hs : subA (some ⟨b, off, none⟩) c k 3 = some ⟨b, off + k * 3, none⟩ := by
    unfold subA
    rw [if_neg (by omega)]
    show some (Addr.add _ _) = _
    rw [Addr.add_lit]
  refine ⟨b, off + k * 3, hs, hlt, fun i hi => ?_⟩
  have := hall (k + i) (by omega)
  rw [show off + (k + i) * 3 = off + k * 3 + i * 3 by omega] at this
  exact this
end Go.Proofs.Ytnbmpackjgffaaa
