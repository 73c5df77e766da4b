/- Package aes (cellaret): what awake runs, computed. -/
import Derived.Test.YtbbanhjcchnhpaaMd
import Derived.Test.YtbbanhjcchnhpaaBeE
namespace Go.Proofs.Ytbbanhjcchnhpaa
open Go.RowKit Go.Deep
set_option linter.unusedVariables false
set_option linter.unusedSimpArgs false
theorem wI_stab (l : List UInt8) (n k t : Nat) (hn : 8 ≤ n) (ht : t < n) : wI l (n + k) t = wI l n t := by
  induction k with
  | zero => rfl
  | succ k ih =>
    rw [← Nat.add_assoc, wI_step l (n + k) (by omega)]
    show (if t = n + k then _ else wI l (n + k) t) = _
    rw [if_neg (by omega), ih]
theorem wI_key (l : List UInt8) (n t : Nat) (hn : 8 ≤ n) (ht : t < 8) : wI l n t = kw l t := by
  obtain ⟨k, rfl⟩ : ∃ k, n = 8 + k := ⟨n - 8, by omega⟩
  rw [wI_stab l 8 k t (by omega) ht]
  show wE l 0 t = _
  unfold wE wK
  rw [if_pos ht]
/-- A key's words by themselves. -/
theorem wI_rec (l : List UInt8) (i : Nat) (h8 : 8 ≤ i) (h60 : i < 60) : wI l 60 i = nextW (wI l 60) (pwI i) i := by
  have h1 : wI l 60 i = wI l (i + 1) i := by
    have := wI_stab l (i + 1) (60 - (i + 1)) i (by omega) (by omega)
    rw [show i + 1 + (60 - (i + 1)) = 60 by omega] at this
    exact this
  have h2 : ∀ t, t < i → wI l 60 t = wI l i t := fun t ht => by
    have := wI_stab l i (60 - i) t h8 ht
    rw [show i + (60 - i) = 60 by omega] at this
    exact this
  rw [h1, wI_step l i h8]
  show (if i = i then nextW (wI l i) (pwI i) i else _) = _
  rw [if_pos rfl]
  unfold nextW tW
  rw [h2 (i - 8) (by omega), h2 (i - 1) (by omega)]
/-- What awake's key's words are, and its states. -/
def KWl : List UInt32 := [66051, 67438087, 134810123, 202182159, 269554195, 336926231, 404298267, 471670303, 2775827103, 2708915352, 2843725459, 2775761052, 374450381, 38059738, 442344641, 104905438, 2928140272, 267459432, 2794378747, 66852199, 1843523912, 1873104786, 1979247443, 1941459341, 3327558271, 3383204119, 1864977644, 1825921419, 1038236277, 1380414951, 666869428, 1409797945, 199004255, 3262843208, 2907850148, 3246857263, 1173726816, 397595527, 806178099, 1678410250, 2094003996, 3199532628, 333888496, 3529615327, 4028300030, 3886557561, 3617940554, 3014649408, 625081969, 2616524837, 2282994645, 1517427722, 1314547353, 2851229664, 2119642026, 3455634922, 620526028, 3205069289, 924500540, 1835589174]
def KWf (t : Nat) : UInt32 := KWl.getD t 0
/-- Bytes of so many, each so much above the one ahead. -/
def riseL (n b : Nat) : List UInt8 := (List.range n).map fun j => UInt8.ofNat (j * b)
theorem kwl_key : ∀ t, t < 8 → kw (riseL 32 1) t = KWf t := fun t ht => of_decide_eq_true (all1 (p := fun t => decide (kw (riseL 32 1) t = KWf t)) 8 (by decide +kernel) t ht)
theorem kwl_rec : ∀ t, t < 60 → 8 ≤ t → nextW KWf (pwI t) t = KWf t := fun t ht h8 => by
  have := all1 (p := fun t => decide (8 ≤ t → nextW KWf (pwI t) t = KWf t)) 60 (by decide +kernel) t ht
  exact of_decide_eq_true this h8
theorem kwl_all (t : Nat) : t < 60 → wI (riseL 32 1) 60 t = KWf t := by
  induction t using Nat.strongRecOn with
  | _ t ih =>
    intro ht
    by_cases h : t < 8
    · rw [wI_key _ 60 t (by omega) h]; exact kwl_key t h
    · rw [wI_rec _ t (by omega) ht, ← kwl_rec t ht (by omega)]
      unfold nextW tW
      rw [ih (t - 8) (by omega) (by omega), ih (t - 1) (by omega) (by omega)]
def SWl : List (List UInt8) := [[0, 16, 32, 48, 64, 80, 96, 112, 128, 144, 160, 176, 192, 208, 224, 240], [79, 99, 118, 6, 67, 224, 170, 133, 239, 167, 33, 50, 1, 164, 231, 5], [24, 89, 251, 194, 138, 28, 0, 160, 120, 237, 138, 173, 196, 47, 97, 9], [151, 92, 102, 193, 203, 159, 63, 168, 169, 58, 40, 223, 142, 225, 15, 99], [28, 5, 242, 113, 164, 23, 224, 79, 249, 33, 197, 193, 4, 112, 21, 84], [195, 87, 170, 225, 27, 69, 183, 176, 162, 199, 189, 40, 168, 220, 153, 250], [127, 7, 65, 67, 203, 78, 36, 62, 193, 12, 129, 93, 131, 117, 213, 76], [214, 83, 164, 105, 108, 160, 188, 15, 90, 202, 171, 93, 185, 108, 94, 125], [90, 168, 88, 57, 95, 210, 141, 125, 5, 225, 163, 136, 104, 243, 185, 197], [74, 130, 72, 81, 197, 126, 126, 71, 100, 61, 229, 12, 42, 243, 232, 201], [193, 73, 7, 246, 202, 59, 58, 160, 112, 233, 170, 49, 59, 82, 181, 236], [95, 156, 106, 191, 186, 198, 52, 170, 80, 64, 159, 167, 102, 103, 118, 83], [81, 102, 4, 149, 67, 83, 149, 3, 20, 251, 134, 228, 1, 146, 37, 33], [98, 123, 206, 185, 153, 157, 90, 170, 201, 69, 236, 244, 35, 245, 109, 165], [142, 162, 183, 202, 81, 103, 69, 191, 234, 252, 73, 144, 75, 73, 96, 137]]
def SWf (k j : Nat) : UInt8 := (SWl.getD k []).getD j 0
theorem sw_zero : ∀ j, j < 16 → bAt (riseL 16 17) j ^^^ wB KWf 0 j = SWf 0 j := fun j hj => of_decide_eq_true (all1 (p := fun j => decide (bAt (riseL 16 17) j ^^^ wB KWf 0 j = SWf 0 j)) 16 (by decide +kernel) j hj)
theorem sw_mid : ∀ k, k < 13 → ∀ j, j < 16 → mxB aE (fun i => bx (SWf k (srcS 1 i))) j ^^^ wB KWf (k + 1) j = SWf (k + 1) j := fun k hk j hj => by
  have := all1 (p := fun k => (List.range 16).all fun j => decide (mxB aE (fun i => bx (SWf k (srcS 1 i))) j ^^^ wB KWf (k + 1) j = SWf (k + 1) j)) 13 (by decide +kernel) k hk
  exact of_decide_eq_true (all1 (p := fun j => decide (mxB aE (fun i => bx (SWf k (srcS 1 i))) j ^^^ wB KWf (k + 1) j = SWf (k + 1) j)) 16 this j hj)
theorem sw_end : ∀ j, j < 16 → bx (SWf 13 (srcS 1 j)) ^^^ wB KWf 14 j = SWf 14 j := fun j hj => of_decide_eq_true (all1 (p := fun j => decide (bx (SWf 13 (srcS 1 j)) ^^^ wB KWf 14 j = SWf 14 j)) 16 (by decide +kernel) j hj)
theorem wB_to (n j : Nat) (hn : n ≤ 14) (hj : j < 16) : wB (wI (riseL 32 1) 60) n j = wB KWf n j := by
  unfold wB
  rw [kwl_all _ (by omega)]
theorem sw_all (k : Nat) (hk : k ≤ 13) : ∀ j, j < 16 → encR (wI (riseL 32 1) 60) (bAt (riseL 16 17)) k j = SWf k j := by
  induction k with
  | zero =>
    intro j hj
    rw [← sw_zero j hj, ← wB_to 0 j (by omega) hj]
    rfl
  | succ k ih =>
    intro j hj
    rw [encR_mid _ _ k (by omega), ← sw_mid k (by omega) j hj]
    show mxB aE _ j ^^^ wB (wI (riseL 32 1) 60) (k + 1) j = _
    rw [wB_to (k + 1) j (by omega) hj, mxB_congr aE _ (fun i => bx (SWf k (srcS 1 i))) (fun i hi => by rw [ih (by omega) _ (src_lt 1 i)]) j hj]
theorem sw_text : txS (encR (wI (riseL 32 1) 60) (bAt (riseL 16 17)) 14) = ⟨#[142, 162, 183, 202, 81, 103, 69, 191, 234, 252, 73, 144, 75, 73, 96, 137]⟩ := by
  rw [txS_congr _ (SWf 14) (fun j hj => by
    rw [show (14 : Nat) = 13 + 1 from rfl, encR_end _ _ 13 (by omega), ← sw_end j hj]
    show bx _ ^^^ wB (wI (riseL 32 1) 60) 14 j = _
    rw [wB_to 14 j (by omega) hj, sw_all 13 (by omega) _ (src_lt 1 j)])]
  decide +kernel
end Go.Proofs.Ytbbanhjcchnhpaa

/- Package aes (cellaret): rising, awake. -/
namespace Go.Proofs.Ytbbanhjcchnhpaa
open Go.RowKit Go.Deep
set_option linter.unusedVariables false
set_option linter.unusedSimpArgs false
def rsF (b k j : Nat) : UInt8 := if j < k then UInt8.ofNat (j * b) else 0
theorem rise_make (n : Nat) (hn : n ≤ 1000) (w : World) : (Instr.makeSlice 77 (.int .i64 (n : Int)) (.int .i64 (n : Int))).run Try.prog w = .ok (.slice (some ⟨w.heap.size, 0, none⟩) n n) (w.alloc (.cells (madeCells #[.int .u8 0] n) 5)) :=
  run_make_row' (P := Try.prog) 77 5 (.int .u8 0) 1 Try.underlying77 (by kernel_rfl) rfl .i64 .i64 n (by omega) (by omega) (w := w)
set_option maxRecDepth 100000 in
set_option maxHeartbeats 2000000 in
theorem rising_raw (n b : Nat) (w : World) (hn : n ≤ 32) (hb : b ≤ 17) (hs : ∀ i, i < n → i * b < 256) :
    Calls Try.prog 27 #[.int .i64 (n : Int), .int .i64 (b : Int)] w fun e w' => e = .returned (.string ⟨(riseL n b).toArray⟩) ∧ Below w.heap.size w w' := by
  have hmk := rise_make n (by omega)
  go_enter Try.func27, Try.ntmps27
  go_wp2_with fail
  obtain ⟨w2, HW2, HR, B2⟩ : ∃ w2, Hid (w.alloc (.cells (madeCells #[.int .u8 0] n) 5) = w2) ∧ Hid (w2.rowIs w.heap.size 5 n (fun j => .int .u8 ((rsF b 0 j).toNat : Int))) ∧ Below w.heap.size w w2 :=
    ⟨_, Lib.hid rfl, Lib.hid (World.rowIs_made w (.int .u8 0) n 5), (Below.refl _ _).alloc (Nat.le_refl _) _⟩
  rw [HW2.out]
  clear HW2 hmk
  go_loopw [6] (fun x wi => ∃ k : Nat, x = .int .i64 (k : Int) ∧ k ≤ n ∧ Hid (wi.rowIs w.heap.size 5 n (fun j => .int .u8 ((rsF b k j).toNat : Int))) ∧ Hid (Below w.heap.size w2 wi)) (fun x _ => n - (intOf x).toNat)
  case atStart => exact ⟨0, rfl, by omega, HR, Lib.hid (Below.refl _ _)⟩
  clear HR
  case round =>
    obtain ⟨k, rfl, hk, HR, HB⟩ := hrel
    by_cases hlt : k < n
    · as_aux_lemma =>
      have hli : (k : Int) < n := by omega
      have hkb := hs k hlt
      obtain ⟨m, hm⟩ : ∃ m, Hid (k * b = m) := ⟨_, Lib.hid rfl⟩
      rw [hm.out] at hkb
      have hki : (k : Int) * (b : Int) = (m : Int) := by rw [← hm.out]; exact (Int.natCast_mul k b).symm
      have hw1 : IntKind.i64.wrap (m : Int) = m := IntWalk.i64_in _ (by omega)
      have hw2 : (m : Int) % 256 = m := by omega
      have c0 := World.rowIs.cell HR.out (i := k) hlt
      have f0 := World.rowIs.frozen HR.out k
      go_wp2_with fail
      go_roundw
      case rel => exact ⟨k + 1, by go_num, by omega, Lib.hid (by
        refine World.rowIs.congr (World.rowIs.set HR.out k (.int .u8 (m : Int))) fun j hj => ?_
        unfold rsF
        by_cases e : j = k
        · subst e
          rw [if_pos rfl, if_pos (show j < j + 1 by omega), hm.out, UInt8.toNat_ofNat', Nat.mod_eq_of_lt hkb]
        · rw [if_neg e]
          by_cases h : j < k
          · rw [if_pos h, if_pos (show j < k + 1 by omega)]
          · rw [if_neg h, if_neg (show ¬ j < k + 1 by omega)]), Lib.hid (HB.out.setCell (p := ⟨_, k, none⟩) (Nat.le_refl _) _)⟩
      case measure => simp [intOf]; omega
    · as_aux_lemma =>
      obtain rfl : k = n := by omega
      have hcv := conv_row (P := Try.prog) (cap := k) (W := k) (dst := 9) (f := fun j => UInt8.ofNat (j * b)) Try.underlying77 Try.underlying5 Try.underlying9 (World.rowIs.congr HR.out fun j hj => by unfold rsF; rw [if_pos hj]) (Nat.le_refl _)
      have BW := B2.trans HB.out
      go_wp2_with fail
      go_ret
      exact ⟨by unfold riseL; simp only [UInt8.ofNat_mul]; rfl, BW⟩
theorem rise32 (w : World) : Calls Try.prog 27 #[.int .i64 32, .int .i64 1] w fun e w' => e = .returned (.string ⟨(riseL 32 1).toArray⟩) ∧ Below w.heap.size w w' := rising_raw 32 1 w (by omega) (by omega) (fun i hi => by omega)
theorem rise16 (w : World) : Calls Try.prog 27 #[.int .i64 16, .int .i64 17] w fun e w' => e = .returned (.string ⟨(riseL 16 17).toArray⟩) ∧ Below w.heap.size w w' := rising_raw 16 17 w (by omega) (by omega) (fun i hi => by omega)
theorem size_r32 : (⟨(riseL 32 1).toArray⟩ : ByteArray).size = 32 := by decide +kernel
theorem size_r16 : (⟨(riseL 16 17).toArray⟩ : ByteArray).size = 16 := by decide +kernel
/-- What awake encrypts, and what comes of it. -/
def awC : ByteArray := ⟨#[142, 162, 183, 202, 81, 103, 69, 191, 234, 252, 73, 144, 75, 73, 96, 137]⟩
set_option maxRecDepth 100000 in
set_option maxHeartbeats 2000000 in
theorem awake04 (w : World) : Calls Try.prog 15 #[] w fun e w' => e = .returned (.bool true) ∧ Below w.heap.size w w' := by
  have CN := Lib.hid (fun w => new_any ⟨(riseL 32 1).toArray⟩ w size_r32)
  have CE := Lib.hid (fun kg w hK => enc_any kg (wI (riseL 32 1) 60) ⟨(riseL 16 17).toArray⟩ w size_r16 hK)
  rw [show (⟨(riseL 16 17).toArray⟩ : ByteArray).data.toList = riseL 16 17 by simp, sw_text] at CE
  rw [show (⟨(riseL 32 1).toArray⟩ : ByteArray).data.toList = riseL 32 1 by simp] at CN
  have CD := Lib.hid (fun kg w hK => dec_any kg (wI (riseL 32 1) 60) ⟨#[142, 162, 183, 202, 81, 103, 69, 191, 234, 252, 73, 144, 75, 73, 96, 137]⟩ w (by rfl) hK)
  have hde := dec_enc_text (wI (riseL 32 1) 60) ⟨(riseL 16 17).toArray⟩ size_r16
  rw [show (⟨(riseL 16 17).toArray⟩ : ByteArray).data.toList = riseL 16 17 by simp, sw_text] at hde
  rw [hde] at CD
  clear hde
  have C32 := Lib.hid rise32
  have C16 := Lib.hid rise16
  have CB := Lib.hid (fun w => box_any 83 w (by omega))
  rw [show boxN 83 = 237 by decide +kernel] at CB
  obtain ⟨W, hW⟩ : ∃ W, Hid (wI (riseL 32 1) 60 = W) := ⟨_, Lib.hid rfl⟩
  rw [hW.out] at CN CE CD
  clear hW
  obtain ⟨r32, h32⟩ : ∃ r, Hid ((⟨(riseL 32 1).toArray⟩ : ByteArray) = r) := ⟨_, Lib.hid rfl⟩
  obtain ⟨r16, h16⟩ : ∃ r, Hid ((⟨(riseL 16 17).toArray⟩ : ByteArray) = r) := ⟨_, Lib.hid rfl⟩
  rw [h32.out] at CN C32
  rw [h16.out] at CE CD C16
  clear h32 h16
  go_enter Try.func15, Try.ntmps15
  go_wp2_with fail
  refine (C32.out _).mono ?_
  rintro e w1 ⟨rfl, b1⟩
  go_wp2_with fail
  refine (CN.out _).mono ?_
  rintro e w2 ⟨rfl, hK2, b2⟩
  have HB2 := Lib.hid (b1.trans (b2.mono b1.size))
  have HK2 := Lib.hid hK2
  clear CN C32 hK2 b1 b2
  generalize w1.heap.size = kg at *
  go_wp2_with fail
  refine (C16.out _).mono ?_
  rintro e w3 ⟨rfl, b3⟩
  have HB3 := Lib.hid (HB2.out.trans (b3.mono HB2.out.size))
  have HK3 := Lib.hid (HK2.out.below b3)
  clear HB2 HK2 b3
  go_wp2_with fail
  refine (CE.out kg _ HK3).mono ?_
  rintro e w4 ⟨rfl, b4⟩
  have HB4 := Lib.hid (HB3.out.trans (b4.mono HB3.out.size))
  have HK4 := Lib.hid (HK3.out.below b4)
  clear HB3 HK3 b4 CE
  go_wp2_with fail
  refine (CD.out kg _ HK4).mono ?_
  rintro e w5 ⟨rfl, b5⟩
  have HB5 := Lib.hid (HB4.out.trans (b5.mono HB4.out.size))
  clear HB4 HK4 b5 CD
  go_wp2_with fail
  refine (C16.out _).mono ?_
  rintro e w6 ⟨rfl, b6⟩
  have HB6 := Lib.hid (HB5.out.trans (b6.mono HB5.out.size))
  clear HB5 b6 C16
  go_wp2_with fail
  refine (CB.out _).mono ?_
  rintro e w7 ⟨rfl, b7⟩
  have HB7 := Lib.hid (HB6.out.trans (b7.mono HB6.out.size))
  clear HB6 b7 CB
  go_wp2_with fail
  go_ret
  exact ⟨rfl, HB7.out⟩
end Go.Proofs.Ytbbanhjcchnhpaa

/- Laws of package aes (cellaret): key; AesBack. -/
namespace Go.Proofs.Ytbbanhjcchnhpaa
open Go.RowKit Go.Deep
set_option linter.unusedVariables false
set_option linter.unusedSimpArgs false
/-- A text cut, or made longer, to so many bytes. -/
def cutB (s : ByteArray) (n : Nat) : ByteArray := if n < s.size then s.extract 0 n else ⟨(zpadL s.data.toList n).toArray⟩
theorem cutB_size (s : ByteArray) (n : Nat) : (cutB s n).size = n := by
  unfold cutB
  split
  · rw [ByteArray.size_extract]; omega
  · rw [bytes_size]; unfold zpadL; rw [List.length_append, List.length_replicate, ← Lib.size_eq]; omega
set_option maxRecDepth 100000 in
theorem key_any (s : ByteArray) (w : World) (hs : s.size ≤ 140737488351232) :
    Calls Try.prog 22 #[.string s] w fun e w' => e = .returned (.string (cutB s 32)) ∧ Below w.heap.size w w' := by
  by_cases h : 32 < s.size
  · have e1 : s.extract 0 32 = cutB s 32 := by unfold cutB; rw [if_pos h]
    have h1 : (32 : Int) < s.size := by omega
    have h2 : (32 : Int) ≤ s.size := by omega
    go_enter Try.func22, Try.ntmps22
    go_wp2_with fail
    go_ret
    exact ⟨by first | (simp only [e1]; rfl) | (rw [← e1]; rfl), Below.refl _ _⟩
  · have e1 : (⟨(zpadL s.data.toList 32).toArray⟩ : ByteArray) = cutB s 32 := by unfold cutB; rw [if_neg h]
    have h1 : ¬ (32 : Int) < s.size := by omega
    have CF := Lib.hid (fun w => full_any s 32 w (by omega) (by omega))
    rw [e1] at CF
    clear e1
    go_enter Try.func22, Try.ntmps22
    go_wp2_with fail
    refine (CF.out _).mono ?_
    rintro e w1 ⟨rfl, b1⟩
    go_wp2_with fail
    go_ret
    exact ⟨rfl, b1⟩
set_option maxRecDepth 100000 in
set_option maxHeartbeats 3000000 in
theorem aesBack_walk (s text : ByteArray) (w : World) (hs : s.size ≤ 140737488351232) (ht : text.size ≤ 140737488351232) :
    Calls Try.prog 6 #[.string s, .string text] w fun e w' => e = .returned (.bool true) ∧ Below w.heap.size w w' := by
  have CK := Lib.hid (fun w => key_any s w hs)
  have CN := Lib.hid (fun w => new_any (cutB s 32) w (cutB_size s 32))
  generalize wI (cutB s 32).data.toList 60 = W at *
  generalize cutB s 32 = ks at *
  by_cases h : 16 < text.size
  · have h1 : (16 : Int) < text.size := by omega
    have h2 : (16 : Int) ≤ text.size := by omega
    have hle : (text.extract 0 16).size = 16 := by rw [ByteArray.size_extract]; omega
    have CF := Lib.hid (fun w => full_any (text.extract 0 16) 16 w (by omega) (by omega))
    obtain ⟨T, hT⟩ : ∃ T, Hid ((⟨(zpadL ((text.extract 0 16)).data.toList 16).toArray⟩ : ByteArray) = T) := ⟨_, Lib.hid rfl⟩
    have hTs : T.size = 16 := by rw [← hT.out, bytes_size]; unfold zpadL; rw [List.length_append, List.length_replicate, ← Lib.size_eq]; omega
    rw [hT.out] at CF
    clear hT
    have CE := Lib.hid (fun kg w hK => enc_any kg W T w hTs hK)
    have CD := Lib.hid (fun kg w hK => dec_any kg W (txS (encR W (bAt T.data.toList) 14)) w (txS_size _) hK)
    rw [dec_enc_text W T hTs] at CD
    have hx : ((txS (encR W (bAt T.data.toList) 14)).size : Int) = 16 := by rw [txS_size]; rfl
    have CD2 := Lib.hid (fun kg w hK => dec_any kg W T w hTs hK)
    have CE2 := Lib.hid (fun kg w hK => enc_any kg W (txS (decS W (bAt T.data.toList))) w (txS_size _) hK)
    rw [enc_dec_text W T hTs] at CE2
    have hz : ((txS (decS W (bAt T.data.toList))).size : Int) = 16 := by rw [txS_size]; rfl
    generalize txS (encR W (bAt T.data.toList) 14) = x at *
    generalize txS (decS W (bAt T.data.toList)) = z at *
    clear hTs
    go_enter Try.func6, Try.ntmps6
    go_wp2_with fail
    refine (CK.out _).mono ?_
    rintro e w1 ⟨rfl, b1⟩
    go_wp2_with fail
    refine (CN.out _).mono ?_
    rintro e w2 ⟨rfl, hK, b2⟩
    have B2 := Lib.hid (below_trans b1 b2)
    have HK := Lib.hid hK
    clear b1 b2 hK
    generalize w1.heap.size = kg at *
    go_wp2_with fail
    refine (CF.out _).mono ?_
    rintro e w3 ⟨rfl, b3⟩
    have B3 := Lib.hid (below_trans B2.out b3)
    have HK3 := Lib.hid (HK.out.below b3)
    clear B2 HK b3
    go_wp2_with fail
    refine (CE.out kg _ HK3).mono ?_
    rintro e w4 ⟨rfl, b4⟩
    have B4 := Lib.hid (below_trans B3.out b4)
    have HK4 := Lib.hid (HK3.out.below b4)
    clear B3 HK3 b4
    go_wp2_with fail
    refine (CD.out kg _ HK4).mono ?_
    rintro e w5 ⟨rfl, b5⟩
    have B5 := Lib.hid (below_trans B4.out b5)
    have HK5 := Lib.hid (HK4.out.below b5)
    clear B4 HK4 b5
    go_wp2_with fail
    refine (CD2.out kg _ HK5).mono ?_
    rintro e w6 ⟨rfl, b6⟩
    have B6 := Lib.hid (below_trans B5.out b6)
    have HK6 := Lib.hid (HK5.out.below b6)
    clear B5 HK5 b6
    go_wp2_with fail
    refine (CE2.out kg _ HK6).mono ?_
    rintro e w7 ⟨rfl, b7⟩
    have B7 := Lib.hid (below_trans B6.out b7)
    clear B6 HK6 b7
    go_wp2_with fail
    refine (awake04 _).mono ?_
    rintro e w8 ⟨rfl, b8⟩
    have B8 := Lib.hid (below_trans B7.out b8)
    clear B7 b8
    go_wp2_with fail
    go_ret
    exact ⟨by first | rfl | simp, B8.out⟩
  · have h1 : ¬ (16 : Int) < text.size := by omega
    have CF := Lib.hid (fun w => full_any text 16 w (by omega) (by omega))
    obtain ⟨T, hT⟩ : ∃ T, Hid ((⟨(zpadL (text).data.toList 16).toArray⟩ : ByteArray) = T) := ⟨_, Lib.hid rfl⟩
    have hTs : T.size = 16 := by rw [← hT.out, bytes_size]; unfold zpadL; rw [List.length_append, List.length_replicate, ← Lib.size_eq]; omega
    rw [hT.out] at CF
    clear hT
    have CE := Lib.hid (fun kg w hK => enc_any kg W T w hTs hK)
    have CD := Lib.hid (fun kg w hK => dec_any kg W (txS (encR W (bAt T.data.toList) 14)) w (txS_size _) hK)
    rw [dec_enc_text W T hTs] at CD
    have hx : ((txS (encR W (bAt T.data.toList) 14)).size : Int) = 16 := by rw [txS_size]; rfl
    have CD2 := Lib.hid (fun kg w hK => dec_any kg W T w hTs hK)
    have CE2 := Lib.hid (fun kg w hK => enc_any kg W (txS (decS W (bAt T.data.toList))) w (txS_size _) hK)
    rw [enc_dec_text W T hTs] at CE2
    have hz : ((txS (decS W (bAt T.data.toList))).size : Int) = 16 := by rw [txS_size]; rfl
    generalize txS (encR W (bAt T.data.toList) 14) = x at *
    generalize txS (decS W (bAt T.data.toList)) = z at *
    clear hTs
    go_enter Try.func6, Try.ntmps6
    go_wp2_with fail
    refine (CK.out _).mono ?_
    rintro e w1 ⟨rfl, b1⟩
    go_wp2_with fail
    refine (CN.out _).mono ?_
    rintro e w2 ⟨rfl, hK, b2⟩
    have B2 := Lib.hid (below_trans b1 b2)
    have HK := Lib.hid hK
    clear b1 b2 hK
    generalize w1.heap.size = kg at *
    go_wp2_with fail
    refine (CF.out _).mono ?_
    rintro e w3 ⟨rfl, b3⟩
    have B3 := Lib.hid (below_trans B2.out b3)
    have HK3 := Lib.hid (HK.out.below b3)
    clear B2 HK b3
    go_wp2_with fail
    refine (CE.out kg _ HK3).mono ?_
    rintro e w4 ⟨rfl, b4⟩
    have B4 := Lib.hid (below_trans B3.out b4)
    have HK4 := Lib.hid (HK3.out.below b4)
    clear B3 HK3 b4
    go_wp2_with fail
    refine (CD.out kg _ HK4).mono ?_
    rintro e w5 ⟨rfl, b5⟩
    have B5 := Lib.hid (below_trans B4.out b5)
    have HK5 := Lib.hid (HK4.out.below b5)
    clear B4 HK4 b5
    go_wp2_with fail
    refine (CD2.out kg _ HK5).mono ?_
    rintro e w6 ⟨rfl, b6⟩
    have B6 := Lib.hid (below_trans B5.out b6)
    have HK6 := Lib.hid (HK5.out.below b6)
    clear B5 HK5 b6
    go_wp2_with fail
    refine (CE2.out kg _ HK6).mono ?_
    rintro e w7 ⟨rfl, b7⟩
    have B7 := Lib.hid (below_trans B6.out b7)
    clear B6 HK6 b7
    go_wp2_with fail
    refine (awake04 _).mono ?_
    rintro e w8 ⟨rfl, b8⟩
    have B8 := Lib.hid (below_trans B7.out b8)
    clear B7 b8
    go_wp2_with fail
    go_ret
    exact ⟨by first | rfl | simp, B8.out⟩
end Go.Proofs.Ytbbanhjcchnhpaa
