/- Package aes (cellaret): rising, awake. -/
import Derived.Test.YtbbanhjcchnhpaaAeS
namespace Go.Proofs.Ytbbanhjcchnhpaa
open Go.RowKit Go.Deep
set_option linter.unusedVariables false
set_option linter.unusedSimpArgs false
def rsF (b k j : Nat) : UInt8 := if j < k then UInt8.ofNat (j * b) else 0
theorem rise_make (n : Nat) (hn : n ≤ 1000) (w : World) : (Instr.makeSlice 77 (.int .i64 (n : Int)) (.int .i64 (n : Int))).run Try.prog w = .ok (.slice (some ⟨w.heap.size, 0, none⟩) n n) (w.alloc (.cells (madeCells #[.int .u8 0] n) 5)) :=
  run_make_row' (P := Try.prog) 77 5 (.int .u8 0) 1 Try.underlying77 (by kernel_rfl) rfl .i64 .i64 n (by omega) (by omega) (w := w)
set_option maxRecDepth 100000 in
set_option maxHeartbeats 2000000 in
theorem rising_raw (n b : Nat) (w : World) (hn : n ≤ 32) (hb : b ≤ 17) (hs : ∀ i, i < n → i * b < 256) :
    Calls Try.prog 27 #[.int .i64 (n : Int), .int .i64 (b : Int)] w fun e w' => e = .returned (.string ⟨(riseL n b).toArray⟩) ∧ Below w.heap.size w w' := by
  have hmk := rise_make n (by omega)
  go_enter Try.func27, Try.ntmps27
  go_wp2_with fail
  obtain ⟨w2, HW2, HR, B2⟩ : ∃ w2, Hid (w.alloc (.cells (madeCells #[.int .u8 0] n) 5) = w2) ∧ Hid (w2.rowIs w.heap.size 5 n (fun j => .int .u8 ((rsF b 0 j).toNat : Int))) ∧ Below w.heap.size w w2 :=
    ⟨_, Lib.hid rfl, Lib.hid (World.rowIs_made w (.int .u8 0) n 5), (Below.refl _ _).alloc (Nat.le_refl _) _⟩
  rw [HW2.out]
  clear HW2 hmk
  go_loopw [6] (fun x wi => ∃ k : Nat, x = .int .i64 (k : Int) ∧ k ≤ n ∧ Hid (wi.rowIs w.heap.size 5 n (fun j => .int .u8 ((rsF b k j).toNat : Int))) ∧ Hid (Below w.heap.size w2 wi)) (fun x _ => n - (intOf x).toNat)
  case atStart => exact ⟨0, rfl, by omega, HR, Lib.hid (Below.refl _ _)⟩
  clear HR
  case round =>
    obtain ⟨k, rfl, hk, HR, HB⟩ := hrel
    by_cases hlt : k < n
    · as_aux_lemma =>
      have hli : (k : Int) < n := by omega
      have hkb := hs k hlt
      obtain ⟨m, hm⟩ : ∃ m, Hid (k * b = m) := ⟨_, Lib.hid rfl⟩
      rw [hm.out] at hkb
      have hki : (k : Int) * (b : Int) = (m : Int) := by rw [← hm.out]; exact (Int.natCast_mul k b).symm
      have hw1 : IntKind.i64.wrap (m : Int) = m := IntWalk.i64_in _ (by omega)
      have hw2 : (m : Int) % 256 = m := by omega
      have c0 := World.rowIs.cell HR.out (i := k) hlt
      have f0 := World.rowIs.frozen HR.out k
      go_wp2_with fail
      go_roundw
      case rel => exact ⟨k + 1, by go_num, by omega, Lib.hid (by
        refine World.rowIs.congr (World.rowIs.set HR.out k (.int .u8 (m : Int))) fun j hj => ?_
        unfold rsF
        by_cases e : j = k
        · subst e
          rw [if_pos rfl, if_pos (show j < j + 1 by omega), hm.out, UInt8.toNat_ofNat', Nat.mod_eq_of_lt hkb]
        · rw [if_neg e]
          by_cases h : j < k
          · rw [if_pos h, if_pos (show j < k + 1 by omega)]
          · rw [if_neg h, if_neg (show ¬ j < k + 1 by omega)]), Lib.hid (HB.out.setCell (p := ⟨_, k, none⟩) (Nat.le_refl _) _)⟩
      case measure => simp [intOf]; omega
    · as_aux_lemma =>
      obtain rfl : k = n := by omega
      have hcv := conv_row (P := Try.prog) (cap := k) (W := k) (dst := 9) (f := fun j => UInt8.ofNat (j * b)) Try.underlying77 Try.underlying5 Try.underlying9 (World.rowIs.congr HR.out fun j hj => by unfold rsF; rw [if_pos hj]) (Nat.le_refl _)
      have BW := B2.trans HB.out
      go_wp2_with fail
      go_ret
      exact ⟨by unfold riseL; simp only [UInt8.ofNat_mul]; rfl, BW⟩
theorem rise32 (w : World) : Calls Try.prog 27 #[.int .i64 32, .int .i64 1] w fun e w' => e = .returned (.string ⟨(riseL 32 1).toArray⟩) ∧ Below w.heap.size w w' := rising_raw 32 1 w (by omega) (by omega) (fun i hi => by omega)
theorem rise16 (w : World) : Calls Try.prog 27 #[.int .i64 16, .int .i64 17] w fun e w' => e = .returned (.string ⟨(riseL 16 17).toArray⟩) ∧ Below w.heap.size w w' := rising_raw 16 17 w (by omega) (by omega) (fun i hi => by omega)
theorem size_r32 : (⟨(riseL 32 1).toArray⟩ : ByteArray).size = 32 := by decide +kernel
theorem size_r16 : (⟨(riseL 16 17).toArray⟩ : ByteArray).size = 16 := by decide +kernel
/-- What awake encrypts, and what comes of it. -/
def awC : ByteArray := ⟨#[142, 162, 183, 202, 81, 103, 69, 191, 234, 252, 73, 144, 75, 73, 96, 137]⟩
set_option maxRecDepth 100000 in
set_option maxHeartbeats 2000000 in
theorem awake04 (w : World) : Calls Try.prog 15 #[] w fun e w' => e = .returned (.bool true) ∧ Below w.heap.size w w' := by
  have CN := Lib.hid (fun w => new_any ⟨(riseL 32 1).toArray⟩ w size_r32)
  have CE := Lib.hid (fun kg w hK => enc_any kg (wI (riseL 32 1) 60) ⟨(riseL 16 17).toArray⟩ w size_r16 hK)
  rw [show (⟨(riseL 16 17).toArray⟩ : ByteArray).data.toList = riseL 16 17 by simp, sw_text] at CE
  rw [show (⟨(riseL 32 1).toArray⟩ : ByteArray).data.toList = riseL 32 1 by simp] at CN
  have CD := Lib.hid (fun kg w hK => dec_any kg (wI (riseL 32 1) 60) ⟨#[142, 162, 183, 202, 81, 103, 69, 191, 234, 252, 73, 144, 75, 73, 96, 137]⟩ w (by rfl) hK)
  have hde := dec_enc_text (wI (riseL 32 1) 60) ⟨(riseL 16 17).toArray⟩ size_r16
  rw [show (⟨(riseL 16 17).toArray⟩ : ByteArray).data.toList = riseL 16 17 by simp, sw_text] at hde
  rw [hde] at CD
  clear hde
  have C32 := Lib.hid rise32
  have C16 := Lib.hid rise16
  have CB := Lib.hid (fun w => box_any 83 w (by omega))
  rw [show boxN 83 = 237 by decide +kernel] at CB
  obtain ⟨W, hW⟩ : ∃ W, Hid (wI (riseL 32 1) 60 = W) := ⟨_, Lib.hid rfl⟩
  rw [hW.out] at CN CE CD
  clear hW
  obtain ⟨r32, h32⟩ : ∃ r, Hid ((⟨(riseL 32 1).toArray⟩ : ByteArray) = r) := ⟨_, Lib.hid rfl⟩
  obtain ⟨r16, h16⟩ : ∃ r, Hid ((⟨(riseL 16 17).toArray⟩ : ByteArray) = r) := ⟨_, Lib.hid rfl⟩
  rw [h32.out] at CN C32
  rw [h16.out] at CE CD C16
  clear h32 h16
  go_enter Try.func15, Try.ntmps15
  go_wp2_with fail
  refine (C32.out _).mono ?_
  rintro e w1 ⟨rfl, b1⟩
  go_wp2_with fail
  refine (CN.out _).mono ?_
  rintro e w2 ⟨rfl, hK2, b2⟩
  have HB2 := Lib.hid (b1.trans (b2.mono b1.size))
  have HK2 := Lib.hid hK2
  clear CN C32 hK2 b1 b2
  generalize w1.heap.size = kg at *
  go_wp2_with fail
  refine (C16.out _).mono ?_
  rintro e w3 ⟨rfl, b3⟩
  have HB3 := Lib.hid (HB2.out.trans (b3.mono HB2.out.size))
  have HK3 := Lib.hid (HK2.out.below b3)
  clear HB2 HK2 b3
  go_wp2_with fail
  refine (CE.out kg _ HK3).mono ?_
  rintro e w4 ⟨rfl, b4⟩
  have HB4 := Lib.hid (HB3.out.trans (b4.mono HB3.out.size))
  have HK4 := Lib.hid (HK3.out.below b4)
  clear HB3 HK3 b4 CE
  go_wp2_with fail
  refine (CD.out kg _ HK4).mono ?_
  rintro e w5 ⟨rfl, b5⟩
  have HB5 := Lib.hid (HB4.out.trans (b5.mono HB4.out.size))
  clear HB4 HK4 b5 CD
  go_wp2_with fail
  refine (C16.out _).mono ?_
  rintro e w6 ⟨rfl, b6⟩
  have HB6 := Lib.hid (HB5.out.trans (b6.mono HB5.out.size))
  clear HB5 b6 C16
  go_wp2_with fail
  refine (CB.out _).mono ?_
  rintro e w7 ⟨rfl, b7⟩
  have HB7 := Lib.hid (HB6.out.trans (b7.mono HB6.out.size))
  clear HB6 b7 CB
  go_wp2_with fail
  go_ret
  exact ⟨rfl, HB7.out⟩
end Go.Proofs.Ytbbanhjcchnhpaa
