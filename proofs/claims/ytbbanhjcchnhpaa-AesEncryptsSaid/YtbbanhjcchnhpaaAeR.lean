/- Package aes (cellaret): what is encrypted is decrypted to what it was, and the other way round. -/
import Derived.Test.YtbbanhjcchnhpaaAeQ
namespace Go.Proofs.Ytbbanhjcchnhpaa
open Go.RowKit Go.Deep
set_option linter.unusedVariables false
set_option linter.unusedSimpArgs false
theorem col0 (a x : Nat → Nat) : colT a x 16 0 = gmul (a 0) (x 0) ^^^ gmul (a 1) (x 3) ^^^ gmul (a 2) (x 2) ^^^ gmul (a 3) (x 1) := by
  have : colT a x 16 0 = 0 ^^^ gmul (a 0) (x 0) ^^^ gmul (a 1) (x 3) ^^^ gmul (a 2) (x 2) ^^^ gmul (a 3) (x 1) := by simp [colT]
  rw [this, Nat.zero_xor]
theorem col1 (a x : Nat → Nat) : colT a x 16 1 = gmul (a 0) (x 1) ^^^ gmul (a 1) (x 0) ^^^ gmul (a 2) (x 3) ^^^ gmul (a 3) (x 2) := by
  have : colT a x 16 1 = 0 ^^^ gmul (a 0) (x 1) ^^^ gmul (a 1) (x 0) ^^^ gmul (a 2) (x 3) ^^^ gmul (a 3) (x 2) := by simp [colT]
  rw [this, Nat.zero_xor]
theorem col2 (a x : Nat → Nat) : colT a x 16 2 = gmul (a 0) (x 2) ^^^ gmul (a 1) (x 1) ^^^ gmul (a 2) (x 0) ^^^ gmul (a 3) (x 3) := by
  have : colT a x 16 2 = 0 ^^^ gmul (a 0) (x 2) ^^^ gmul (a 1) (x 1) ^^^ gmul (a 2) (x 0) ^^^ gmul (a 3) (x 3) := by simp [colT]
  rw [this, Nat.zero_xor]
theorem col3 (a x : Nat → Nat) : colT a x 16 3 = gmul (a 0) (x 3) ^^^ gmul (a 1) (x 2) ^^^ gmul (a 2) (x 1) ^^^ gmul (a 3) (x 0) := by
  have : colT a x 16 3 = 0 ^^^ gmul (a 0) (x 3) ^^^ gmul (a 1) (x 2) ^^^ gmul (a 2) (x 1) ^^^ gmul (a 3) (x 0) := by simp [colT]
  rw [this, Nat.zero_xor]
/-- Two rows of four that undo each other. -/
structure Undo (a b : Nat → Nat) : Prop where
  h0 : ∀ t, t < 256 → gmul (b 0) (gmul (a 0) t) ^^^ gmul (b 1) (gmul (a 3) t) ^^^ gmul (b 2) (gmul (a 2) t) ^^^ gmul (b 3) (gmul (a 1) t) = t
  h1 : ∀ t, t < 256 → gmul (b 0) (gmul (a 3) t) ^^^ gmul (b 1) (gmul (a 2) t) ^^^ gmul (b 2) (gmul (a 1) t) ^^^ gmul (b 3) (gmul (a 0) t) = 0
  h2 : ∀ t, t < 256 → gmul (b 0) (gmul (a 2) t) ^^^ gmul (b 1) (gmul (a 1) t) ^^^ gmul (b 2) (gmul (a 0) t) ^^^ gmul (b 3) (gmul (a 3) t) = 0
  h3 : ∀ t, t < 256 → gmul (b 0) (gmul (a 1) t) ^^^ gmul (b 1) (gmul (a 0) t) ^^^ gmul (b 2) (gmul (a 3) t) ^^^ gmul (b 3) (gmul (a 2) t) = 0
theorem undoDE : Undo aE aD :=
  ⟨fun t h => of_decide_eq_true (all1 (p := fun t => decide (gmul (aD 0) (gmul (aE 0) t) ^^^ gmul (aD 1) (gmul (aE 3) t) ^^^ gmul (aD 2) (gmul (aE 2) t) ^^^ gmul (aD 3) (gmul (aE 1) t) = t)) 256 (by decide +kernel) t h),
   fun t h => of_decide_eq_true (all1 (p := fun t => decide (gmul (aD 0) (gmul (aE 3) t) ^^^ gmul (aD 1) (gmul (aE 2) t) ^^^ gmul (aD 2) (gmul (aE 1) t) ^^^ gmul (aD 3) (gmul (aE 0) t) = 0)) 256 (by decide +kernel) t h),
   fun t h => of_decide_eq_true (all1 (p := fun t => decide (gmul (aD 0) (gmul (aE 2) t) ^^^ gmul (aD 1) (gmul (aE 1) t) ^^^ gmul (aD 2) (gmul (aE 0) t) ^^^ gmul (aD 3) (gmul (aE 3) t) = 0)) 256 (by decide +kernel) t h),
   fun t h => of_decide_eq_true (all1 (p := fun t => decide (gmul (aD 0) (gmul (aE 1) t) ^^^ gmul (aD 1) (gmul (aE 0) t) ^^^ gmul (aD 2) (gmul (aE 3) t) ^^^ gmul (aD 3) (gmul (aE 2) t) = 0)) 256 (by decide +kernel) t h)⟩
theorem undoED : Undo aD aE :=
  ⟨fun t h => of_decide_eq_true (all1 (p := fun t => decide (gmul (aE 0) (gmul (aD 0) t) ^^^ gmul (aE 1) (gmul (aD 3) t) ^^^ gmul (aE 2) (gmul (aD 2) t) ^^^ gmul (aE 3) (gmul (aD 1) t) = t)) 256 (by decide +kernel) t h),
   fun t h => of_decide_eq_true (all1 (p := fun t => decide (gmul (aE 0) (gmul (aD 3) t) ^^^ gmul (aE 1) (gmul (aD 2) t) ^^^ gmul (aE 2) (gmul (aD 1) t) ^^^ gmul (aE 3) (gmul (aD 0) t) = 0)) 256 (by decide +kernel) t h),
   fun t h => of_decide_eq_true (all1 (p := fun t => decide (gmul (aE 0) (gmul (aD 2) t) ^^^ gmul (aE 1) (gmul (aD 1) t) ^^^ gmul (aE 2) (gmul (aD 0) t) ^^^ gmul (aE 3) (gmul (aD 3) t) = 0)) 256 (by decide +kernel) t h),
   fun t h => of_decide_eq_true (all1 (p := fun t => decide (gmul (aE 0) (gmul (aD 1) t) ^^^ gmul (aE 1) (gmul (aD 0) t) ^^^ gmul (aE 2) (gmul (aD 3) t) ^^^ gmul (aE 3) (gmul (aD 2) t) = 0)) 256 (by decide +kernel) t h)⟩
/-- Four variables, sixteen products, put together by variables. -/
theorem regroup (A0 A1 A2 A3 B0 B1 B2 B3 C0 C1 C2 C3 D0 D1 D2 D3 : Nat) :
    (A0 ^^^ A1 ^^^ A2 ^^^ A3) ^^^ (B0 ^^^ B1 ^^^ B2 ^^^ B3) ^^^ (C0 ^^^ C1 ^^^ C2 ^^^ C3) ^^^ (D0 ^^^ D1 ^^^ D2 ^^^ D3) = (A0 ^^^ B3 ^^^ C2 ^^^ D1) ^^^ (A3 ^^^ B2 ^^^ C1 ^^^ D0) ^^^ (A2 ^^^ B1 ^^^ C0 ^^^ D3) ^^^ (A1 ^^^ B0 ^^^ C3 ^^^ D2) := by ac_rfl
theorem undo1 {a b : Nat → Nat} (h : Undo a b) (x0 x1 x2 x3 : Nat) (l0 : x0 < 256) (l1 : x1 < 256) (l2 : x2 < 256) (l3 : x3 < 256) :
    gmul (b 0) (gmul (a 0) x0 ^^^ gmul (a 1) x3 ^^^ gmul (a 2) x2 ^^^ gmul (a 3) x1) ^^^ gmul (b 1) (gmul (a 0) x3 ^^^ gmul (a 1) x2 ^^^ gmul (a 2) x1 ^^^ gmul (a 3) x0) ^^^ gmul (b 2) (gmul (a 0) x2 ^^^ gmul (a 1) x1 ^^^ gmul (a 2) x0 ^^^ gmul (a 3) x3) ^^^ gmul (b 3) (gmul (a 0) x1 ^^^ gmul (a 1) x0 ^^^ gmul (a 2) x3 ^^^ gmul (a 3) x2) = x0 := by
  simp only [gmul_add_right]
  rw [regroup, h.h0 x0 l0, h.h1 x1 l1, h.h2 x2 l2, h.h3 x3 l3, Nat.xor_zero, Nat.xor_zero, Nat.xor_zero]
theorem undo_col {a b : Nat → Nat} (h : Undo a b) (x : Nat → Nat) (hx : ∀ i, x i < 256) (k : Nat) (hk : k < 4) : colT b (fun i => colT a x 16 i) 16 k = x k := by
  rcases (show k = 0 ∨ k = 1 ∨ k = 2 ∨ k = 3 by omega) with rfl | rfl | rfl | rfl
  · rw [col0]; simp only [col0, col1, col2, col3]; exact undo1 h _ _ _ _ (hx 0) (hx 1) (hx 2) (hx 3)
  · rw [col1]; simp only [col0, col1, col2, col3]; exact undo1 h _ _ _ _ (hx 1) (hx 2) (hx 3) (hx 0)
  · rw [col2]; simp only [col0, col1, col2, col3]; exact undo1 h _ _ _ _ (hx 2) (hx 3) (hx 0) (hx 1)
  · rw [col3]; simp only [col0, col1, col2, col3]; exact undo1 h _ _ _ _ (hx 3) (hx 0) (hx 1) (hx 2)
theorem colT_congr (a x y : Nat → Nat) (h : ∀ i, i < 4 → x i = y i) (t k : Nat) : colT a x t k = colT a y t k := by
  induction t with
  | zero => rfl
  | succ t ih => unfold colT; rw [ih, h (t % 4) (Nat.mod_lt _ (by decide))]
theorem mxB_congr (a : Nat → Nat) (f g : Nat → UInt8) (h : ∀ i, i < 16 → f i = g i) (j : Nat) (hj : j < 16) : mxB a f j = mxB a g j := by
  unfold mxB
  rw [colT_congr a _ _ (fun i hi => by rw [h (4 * (j / 4) + i) (by omega)])]
theorem mxB_undo {a b : Nat → Nat} (h : Undo a b) (ha : ∀ i, a i < 256) (hb : ∀ i, b i < 256) (f : Nat → UInt8) (j : Nat) (hj : j < 16) : mxB b (mxB a f) j = f j := by
  rw [← UInt8.toNat_inj, mxB_nat _ _ _ hb]
  rw [colT_congr b _ (fun i => colT a (fun i' => (f (4 * (j / 4) + i')).toNat) 16 i) (fun i hi => by rw [mxB_nat _ _ _ ha, show (4 * (j / 4) + i) / 4 = j / 4 by omega, show (4 * (j / 4) + i) % 4 = i by omega])]
  rw [undo_col h _ (fun i => UInt8.toNat_lt _) (j % 4) (by omega), show 4 * (j / 4) + j % 4 = j by omega]
theorem src31 (j : Nat) (hj : j < 16) : srcS 3 (srcS 1 j) = j := by unfold srcS; omega
theorem src13 (j : Nat) (hj : j < 16) : srcS 1 (srcS 3 j) = j := by unfold srcS; omega
theorem src_lt (b j : Nat) : srcS b j < 16 := by unfold srcS; omega
theorem xor_back (a b : UInt8) : a ^^^ b ^^^ b = a := by rw [UInt8.xor_assoc, UInt8.xor_self, UInt8.xor_zero]
theorem dec_back (W : Nat → UInt32) (f : Nat → UInt8) (t : Nat) (ht : t ≤ 14) : ∀ j, j < 16 → decR W (encR W f 14) t j = encR W f (14 - t) j := by
  induction t with
  | zero => intro j hj; rfl
  | succ t ih =>
    intro j hj
    have hi := ih (by omega)
    by_cases h0 : t = 0
    · subst h0
      rw [show 0 + 1 = 1 from rfl, decR_first, show decR W (encR W f 14) 0 = encR W f (13 + 1) from rfl, encR_end W f 13 (by omega)]
      show ux (bx (encR W f 13 (srcS 1 (srcS 3 j))) ^^^ wB W 14 (srcS 3 j) ^^^ wB W 14 (srcS 3 j)) = _
      rw [xor_back, ux_bx, src13 j hj]
    · rw [decR_next W _ t h0]
      show ux (mxB aD (fun i => decR W (encR W f 14) t i ^^^ wB W (14 - t) i) (srcS 3 j)) = _
      obtain ⟨k, hk⟩ : ∃ k, 14 - t = k + 1 := ⟨13 - t, by omega⟩
      rw [mxB_congr aD _ (mxB aE (fun i => bx (encR W f k (srcS 1 i)))) (fun i hi' => by
        rw [hi i hi', hk, encR_mid W f k (by omega)]
        exact xor_back _ _) _ (src_lt 3 j)]
      rw [mxB_undo undoDE aE_lt aD_lt _ _ (src_lt 3 j), src13 j hj, ux_bx, show 14 - (t + 1) = k by omega]
theorem decS_encR (W : Nat → UInt32) (f : Nat → UInt8) (j : Nat) (hj : j < 16) : decS W (encR W f 14) j = f j := by
  unfold decS
  rw [dec_back W f 14 (by omega) j hj]
  exact xor_back _ _
theorem enc_back (W : Nat → UInt32) (f : Nat → UInt8) (k : Nat) (hk : k ≤ 13) : ∀ j, j < 16 → encR W (decS W f) k j = decR W f (14 - k) j := by
  induction k with
  | zero => intro j hj; exact xor_back _ _
  | succ k ih =>
    intro j hj
    have hi := ih (by omega)
    obtain ⟨t, ht⟩ : ∃ t, 14 - k = t + 1 := ⟨13 - k, by omega⟩
    rw [encR_mid W _ k (by omega)]
    show mxB aE (fun i => bx (encR W (decS W f) k (srcS 1 i))) j ^^^ wB W (k + 1) j = _
    rw [mxB_congr aE _ (mxB aD (fun i => decR W f t i ^^^ wB W (14 - t) i)) (fun i hi' => by
      rw [hi _ (src_lt 1 i), ht, decR_next W f t (by omega), bx_ux, src31 i hi']) _ hj]
    rw [mxB_undo undoED aD_lt aE_lt _ _ hj, show 14 - t = k + 1 by omega, show 14 - (k + 1) = t by omega]
    exact xor_back _ _
theorem encR_decS (W : Nat → UInt32) (f : Nat → UInt8) (j : Nat) (hj : j < 16) : encR W (decS W f) 14 j = f j := by
  rw [show (14 : Nat) = 13 + 1 from rfl, encR_end W _ 13 (by omega)]
  show bx (encR W (decS W f) 13 (srcS 1 j)) ^^^ wB W 14 j = _
  rw [enc_back W f 13 (by omega) _ (src_lt 1 j), show 14 - 13 = 1 from rfl, decR_first]
  show bx (ux (f (srcS 3 (srcS 1 j)) ^^^ wB W 14 (srcS 3 (srcS 1 j)))) ^^^ wB W 14 j = _
  rw [bx_ux, src31 j hj, xor_back]
theorem bAt_txS (f : Nat → UInt8) (j : Nat) (hj : j < 16) : bAt (txS f).data.toList j = f j := by
  unfold bAt txS
  simp [hj]
theorem txS_size (f : Nat → UInt8) : (txS f).size = 16 := by
  rw [Lib.size_eq]; unfold txS; simp
theorem encR_congr (W : Nat → UInt32) (f g : Nat → UInt8) (h : ∀ j, j < 16 → f j = g j) (k : Nat) : ∀ j, j < 16 → encR W f k j = encR W g k j := by
  induction k with
  | zero => intro j hj; show f j ^^^ _ = g j ^^^ _; rw [h j hj]
  | succ k ih =>
    intro j hj
    show (if k + 1 < 14 then mxB aE (fun i => bx (encR W f k (srcS 1 i))) j else bx (encR W f k (srcS 1 j))) ^^^ _ = (if k + 1 < 14 then mxB aE (fun i => bx (encR W g k (srcS 1 i))) j else bx (encR W g k (srcS 1 j))) ^^^ _
    rw [mxB_congr aE _ (fun i => bx (encR W g k (srcS 1 i))) (fun i hi => by rw [ih _ (src_lt 1 i)]) j hj, ih _ (src_lt 1 j)]
theorem decR_congr (W : Nat → UInt32) (f g : Nat → UInt8) (h : ∀ j, j < 16 → f j = g j) (k : Nat) : ∀ j, j < 16 → decR W f k j = decR W g k j := by
  induction k with
  | zero => exact h
  | succ k ih =>
    intro j hj
    show ux (if k = 0 then decR W f k (srcS 3 j) ^^^ wB W (14 - k) (srcS 3 j) else mxB aD (fun i => decR W f k i ^^^ wB W (14 - k) i) (srcS 3 j)) = ux (if k = 0 then decR W g k (srcS 3 j) ^^^ wB W (14 - k) (srcS 3 j) else mxB aD (fun i => decR W g k i ^^^ wB W (14 - k) i) (srcS 3 j))
    rw [mxB_congr aD _ (fun i => decR W g k i ^^^ wB W (14 - k) i) (fun i hi => by rw [ih _ hi]) _ (src_lt 3 j), ih _ (src_lt 3 j)]
theorem txS_congr (f g : Nat → UInt8) (h : ∀ j, j < 16 → f j = g j) : txS f = txS g := by
  unfold txS
  rw [List.map_congr_left (fun j hj => h j (List.mem_range.1 hj))]
theorem txS_bAt (s : ByteArray) (hs : s.size = 16) : txS (bAt s.data.toList) = s := by
  have hl : s.data.toList.length = 16 := by rw [← Lib.size_eq]; exact hs
  have : (List.range 16).map (bAt s.data.toList) = s.data.toList := by
    apply List.ext_getElem?
    intro i
    rw [List.getElem?_map]
    by_cases h : i < 16
    · have h' : i < s.data.toList.length := by omega
      rw [List.getElem?_range h, List.getElem?_eq_getElem h']
      show some ((s.data.toList[i]?).getD 0) = _
      rw [List.getElem?_eq_getElem h']
      rfl
    · rw [List.getElem?_eq_none (by simp; omega), List.getElem?_eq_none (by omega)]; rfl
  unfold txS
  rw [this]
/-- There and back. -/
theorem dec_enc_text (W : Nat → UInt32) (s : ByteArray) (hs : s.size = 16) : txS (decS W (bAt (txS (encR W (bAt s.data.toList) 14)).data.toList)) = s := by
  rw [txS_congr _ (bAt s.data.toList) (fun j hj => by
    show decR W _ 14 j ^^^ wB W 0 j = _
    rw [decR_congr W _ (encR W (bAt s.data.toList) 14) (fun i hi => bAt_txS _ i hi) 14 j hj]
    exact decS_encR W _ j hj), txS_bAt s hs]
theorem enc_dec_text (W : Nat → UInt32) (s : ByteArray) (hs : s.size = 16) : txS (encR W (bAt (txS (decS W (bAt s.data.toList))).data.toList) 14) = s := by
  rw [txS_congr _ (bAt s.data.toList) (fun j hj => by
    rw [encR_congr W _ (decS W (bAt s.data.toList)) (fun i hi => bAt_txS _ i hi) 14 j hj]
    exact encR_decS W _ j hj), txS_bAt s hs]
end Go.Proofs.Ytbbanhjcchnhpaa
