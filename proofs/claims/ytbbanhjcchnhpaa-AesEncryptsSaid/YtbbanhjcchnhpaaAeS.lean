/- Package aes (cellaret): what awake runs, computed. -/
import Derived.Test.YtbbanhjcchnhpaaAeR
namespace Go.Proofs.Ytbbanhjcchnhpaa
open Go.RowKit Go.Deep
set_option linter.unusedVariables false
set_option linter.unusedSimpArgs false
theorem wI_stab (l : List UInt8) (n k t : Nat) (hn : 8 ≤ n) (ht : t < n) : wI l (n + k) t = wI l n t := by
  induction k with
  | zero => rfl
  | succ k ih =>
    rw [← Nat.add_assoc, wI_step l (n + k) (by omega)]
    show (if t = n + k then _ else wI l (n + k) t) = _
    rw [if_neg (by omega), ih]
theorem wI_key (l : List UInt8) (n t : Nat) (hn : 8 ≤ n) (ht : t < 8) : wI l n t = kw l t := by
  obtain ⟨k, rfl⟩ : ∃ k, n = 8 + k := ⟨n - 8, by omega⟩
  rw [wI_stab l 8 k t (by omega) ht]
  show wE l 0 t = _
  unfold wE wK
  rw [if_pos ht]
/-- A key's words by themselves. -/
theorem wI_rec (l : List UInt8) (i : Nat) (h8 : 8 ≤ i) (h60 : i < 60) : wI l 60 i = nextW (wI l 60) (pwI i) i := by
  have h1 : wI l 60 i = wI l (i + 1) i := by
    have := wI_stab l (i + 1) (60 - (i + 1)) i (by omega) (by omega)
    rw [show i + 1 + (60 - (i + 1)) = 60 by omega] at this
    exact this
  have h2 : ∀ t, t < i → wI l 60 t = wI l i t := fun t ht => by
    have := wI_stab l i (60 - i) t h8 ht
    rw [show i + (60 - i) = 60 by omega] at this
    exact this
  rw [h1, wI_step l i h8]
  show (if i = i then nextW (wI l i) (pwI i) i else _) = _
  rw [if_pos rfl]
  unfold nextW tW
  rw [h2 (i - 8) (by omega), h2 (i - 1) (by omega)]
/-- What awake's key's words are, and its states. -/
def KWl : List UInt32 := [66051, 67438087, 134810123, 202182159, 269554195, 336926231, 404298267, 471670303, 2775827103, 2708915352, 2843725459, 2775761052, 374450381, 38059738, 442344641, 104905438, 2928140272, 267459432, 2794378747, 66852199, 1843523912, 1873104786, 1979247443, 1941459341, 3327558271, 3383204119, 1864977644, 1825921419, 1038236277, 1380414951, 666869428, 1409797945, 199004255, 3262843208, 2907850148, 3246857263, 1173726816, 397595527, 806178099, 1678410250, 2094003996, 3199532628, 333888496, 3529615327, 4028300030, 3886557561, 3617940554, 3014649408, 625081969, 2616524837, 2282994645, 1517427722, 1314547353, 2851229664, 2119642026, 3455634922, 620526028, 3205069289, 924500540, 1835589174]
def KWf (t : Nat) : UInt32 := KWl.getD t 0
/-- Bytes of so many, each so much above the one ahead. -/
def riseL (n b : Nat) : List UInt8 := (List.range n).map fun j => UInt8.ofNat (j * b)
theorem kwl_key : ∀ t, t < 8 → kw (riseL 32 1) t = KWf t := fun t ht => of_decide_eq_true (all1 (p := fun t => decide (kw (riseL 32 1) t = KWf t)) 8 (by decide +kernel) t ht)
theorem kwl_rec : ∀ t, t < 60 → 8 ≤ t → nextW KWf (pwI t) t = KWf t := fun t ht h8 => by
  have := all1 (p := fun t => decide (8 ≤ t → nextW KWf (pwI t) t = KWf t)) 60 (by decide +kernel) t ht
  exact of_decide_eq_true this h8
theorem kwl_all (t : Nat) : t < 60 → wI (riseL 32 1) 60 t = KWf t := by
  induction t using Nat.strongRecOn with
  | _ t ih =>
    intro ht
    by_cases h : t < 8
    · rw [wI_key _ 60 t (by omega) h]; exact kwl_key t h
    · rw [wI_rec _ t (by omega) ht, ← kwl_rec t ht (by omega)]
      unfold nextW tW
      rw [ih (t - 8) (by omega) (by omega), ih (t - 1) (by omega) (by omega)]
def SWl : List (List UInt8) := [[0, 16, 32, 48, 64, 80, 96, 112, 128, 144, 160, 176, 192, 208, 224, 240], [79, 99, 118, 6, 67, 224, 170, 133, 239, 167, 33, 50, 1, 164, 231, 5], [24, 89, 251, 194, 138, 28, 0, 160, 120, 237, 138, 173, 196, 47, 97, 9], [151, 92, 102, 193, 203, 159, 63, 168, 169, 58, 40, 223, 142, 225, 15, 99], [28, 5, 242, 113, 164, 23, 224, 79, 249, 33, 197, 193, 4, 112, 21, 84], [195, 87, 170, 225, 27, 69, 183, 176, 162, 199, 189, 40, 168, 220, 153, 250], [127, 7, 65, 67, 203, 78, 36, 62, 193, 12, 129, 93, 131, 117, 213, 76], [214, 83, 164, 105, 108, 160, 188, 15, 90, 202, 171, 93, 185, 108, 94, 125], [90, 168, 88, 57, 95, 210, 141, 125, 5, 225, 163, 136, 104, 243, 185, 197], [74, 130, 72, 81, 197, 126, 126, 71, 100, 61, 229, 12, 42, 243, 232, 201], [193, 73, 7, 246, 202, 59, 58, 160, 112, 233, 170, 49, 59, 82, 181, 236], [95, 156, 106, 191, 186, 198, 52, 170, 80, 64, 159, 167, 102, 103, 118, 83], [81, 102, 4, 149, 67, 83, 149, 3, 20, 251, 134, 228, 1, 146, 37, 33], [98, 123, 206, 185, 153, 157, 90, 170, 201, 69, 236, 244, 35, 245, 109, 165], [142, 162, 183, 202, 81, 103, 69, 191, 234, 252, 73, 144, 75, 73, 96, 137]]
def SWf (k j : Nat) : UInt8 := (SWl.getD k []).getD j 0
theorem sw_zero : ∀ j, j < 16 → bAt (riseL 16 17) j ^^^ wB KWf 0 j = SWf 0 j := fun j hj => of_decide_eq_true (all1 (p := fun j => decide (bAt (riseL 16 17) j ^^^ wB KWf 0 j = SWf 0 j)) 16 (by decide +kernel) j hj)
theorem sw_mid : ∀ k, k < 13 → ∀ j, j < 16 → mxB aE (fun i => bx (SWf k (srcS 1 i))) j ^^^ wB KWf (k + 1) j = SWf (k + 1) j := fun k hk j hj => by
  have := all1 (p := fun k => (List.range 16).all fun j => decide (mxB aE (fun i => bx (SWf k (srcS 1 i))) j ^^^ wB KWf (k + 1) j = SWf (k + 1) j)) 13 (by decide +kernel) k hk
  exact of_decide_eq_true (all1 (p := fun j => decide (mxB aE (fun i => bx (SWf k (srcS 1 i))) j ^^^ wB KWf (k + 1) j = SWf (k + 1) j)) 16 this j hj)
theorem sw_end : ∀ j, j < 16 → bx (SWf 13 (srcS 1 j)) ^^^ wB KWf 14 j = SWf 14 j := fun j hj => of_decide_eq_true (all1 (p := fun j => decide (bx (SWf 13 (srcS 1 j)) ^^^ wB KWf 14 j = SWf 14 j)) 16 (by decide +kernel) j hj)
theorem wB_to (n j : Nat) (hn : n ≤ 14) (hj : j < 16) : wB (wI (riseL 32 1) 60) n j = wB KWf n j := by
  unfold wB
  rw [kwl_all _ (by omega)]
theorem sw_all (k : Nat) (hk : k ≤ 13) : ∀ j, j < 16 → encR (wI (riseL 32 1) 60) (bAt (riseL 16 17)) k j = SWf k j := by
  induction k with
  | zero =>
    intro j hj
    rw [← sw_zero j hj, ← wB_to 0 j (by omega) hj]
    rfl
  | succ k ih =>
    intro j hj
    rw [encR_mid _ _ k (by omega), ← sw_mid k (by omega) j hj]
    show mxB aE _ j ^^^ wB (wI (riseL 32 1) 60) (k + 1) j = _
    rw [wB_to (k + 1) j (by omega) hj, mxB_congr aE _ (fun i => bx (SWf k (srcS 1 i))) (fun i hi => by rw [ih (by omega) _ (src_lt 1 i)]) j hj]
theorem sw_text : txS (encR (wI (riseL 32 1) 60) (bAt (riseL 16 17)) 14) = ⟨#[142, 162, 183, 202, 81, 103, 69, 191, 234, 252, 73, 144, 75, 73, 96, 137]⟩ := by
  rw [txS_congr _ (SWf 14) (fun j hj => by
    rw [show (14 : Nat) = 13 + 1 from rfl, encR_end _ _ 13 (by omega), ← sw_end j hj]
    show bx _ ^^^ wB (wI (riseL 32 1) 60) 14 j = _
    rw [wB_to 14 j (by omega) hj, sw_all 13 (by omega) _ (src_lt 1 j)])]
  decide +kernel
end Go.Proofs.Ytbbanhjcchnhpaa
