/- Package aes (cellaret): Decrypt. -/
import Derived.Test.YtbbanhjcchnhpaaAeP
namespace Go.Proofs.Ytbbanhjcchnhpaa
open Go.RowKit Go.Deep
set_option linter.unusedVariables false
set_option linter.unusedSimpArgs false
/-- A state behind so many rounds back. -/
def decR (W : Nat → UInt32) (f : Nat → UInt8) : Nat → Nat → UInt8
  | 0 => f
  | t + 1 => fun j => ux (if t = 0 then decR W f t (srcS 3 j) ^^^ wB W (14 - t) (srcS 3 j) else mxB aD (fun i => decR W f t i ^^^ wB W (14 - t) i) (srcS 3 j))
theorem decR_first (W : Nat → UInt32) (f : Nat → UInt8) : decR W f 1 = fun j => ux (decR W f 0 (srcS 3 j) ^^^ wB W 14 (srcS 3 j)) := rfl
theorem decR_next (W : Nat → UInt32) (f : Nat → UInt8) (t : Nat) (h : t ≠ 0) : decR W f (t + 1) = fun j => ux (mxB aD (fun i => decR W f t i ^^^ wB W (14 - t) i) (srcS 3 j)) := by
  funext j
  show ux (if t = 0 then _ else _) = _
  rw [if_neg h]
def decS (W : Nat → UInt32) (f : Nat → UInt8) : Nat → UInt8 := fun j => decR W f 14 j ^^^ wB W 0 j
theorem dec_nil (s : ByteArray) (w : World) :
    Calls Try.prog 26 #[.pointer none, .string s] w fun e w' => e = .returned (.tuple #[.string ⟨#[]⟩, .int .i64 1]) ∧ w = w' := by
  go_enter Try.func26, Try.ntmps26
  go_wp2_with fail
  refine (refused_nil s _).mono ?_
  rintro e w' ⟨rfl, rfl⟩
  go_wp2_with fail
  go_ret2
  exact ⟨rfl, rfl⟩
theorem dec_len (kg : Nat) (s : ByteArray) (w : World) (hs : s.size ≠ 16) :
    Calls Try.prog 26 #[.pointer (some ⟨kg, 0, none⟩), .string s] w fun e w' => e = .returned (.tuple #[.string ⟨#[]⟩, .int .i64 6]) ∧ w = w' := by
  go_enter Try.func26, Try.ntmps26
  go_wp2_with fail
  refine (refused_len kg s _ hs).mono ?_
  rintro e w' ⟨rfl, rfl⟩
  go_wp2_with fail
  go_ret2
  exact ⟨rfl, rfl⟩
set_option maxRecDepth 100000 in
set_option maxHeartbeats 3000000 in
theorem dec_any (kg : Nat) (W : Nat → UInt32) (s : ByteArray) (w : World) (hs : s.size = 16) (hK : Hid (KeyAt w kg W)) :
    Calls Try.prog 26 #[.pointer (some ⟨kg, 0, none⟩), .string s] w fun e w' => e = .returned (.tuple #[.string (txS (decS W (bAt s.data.toList))), .int .i64 0]) ∧ Below w.heap.size w w' := by
  have CR := Lib.hid (fun w => read_any s w hs)
  have CF := Lib.hid (fun w => refused_ok kg s w hs)
  obtain ⟨f, hf⟩ : ∃ f, Hid (bAt s.data.toList = f) := ⟨_, Lib.hid rfl⟩
  rw [hf.out] at CR ⊢
  clear hf hs
  have hkl := hK.out.lt
  go_enter Try.func26, Try.ntmps26
  go_wp2_with fail
  refine (CF.out _).mono ?_
  rintro e w' ⟨rfl, rfl⟩
  go_wp2_with fail
  refine (CR.out _).mono ?_
  rintro e w1 ⟨rfl, b1⟩
  clear CF CR
  have HB1 := Lib.hid b1
  have HZ1 := Lib.hid b1.size
  clear b1
  go_upto_region 5 with (refine wpList_store_row rfl _ _ _ rfl w1.heap.size (st16 f) rfl rfl 82 _ (heap_alloc_new _ _) (by rw [st16_size]; kernel_rfl) (by rw [st16_size]; rfl) (st16_one _) ?_)
  obtain ⟨w2, HW2, HR2, b2, hs2⟩ := box16 f w1
  rw [HW2.out]
  clear HW2
  have HK2 : Hid (KeyAt w2 kg W) := Lib.hid ((hK.out.below HB1.out).below b2)
  have HB2 : Hid (Below w.heap.size w w2) := Lib.hid (HB1.out.trans (b2.mono HZ1.out))
  have hgk : kg < w1.heap.size := Nat.lt_of_lt_of_le hkl HZ1.out
  clear HB1 b2 hK hkl
  generalize w1.heap.size = g at *
  go_wp2_with fail
  refine (adder_any kg g _).mono ?_
  rintro e w3 ⟨rfl, hp, hq, b3, hs3⟩
  have HR3 : Hid (w3.rowIs g 82 16 (fun j => .int .u8 ((f j).toNat : Int))) := Lib.hid (World.rowIs.of_block HR2.out (b3.block g hs2))
  have HK3 : Hid (KeyAt w3 kg W) := Lib.hid (HK2.out.below b3)
  have HB3 : Hid (Below w.heap.size w w3) := Lib.hid (HB2.out.trans (b3.mono HB2.out.size))
  have HP3 := Lib.hid hp
  have HQ3 := Lib.hid hq
  have npg : w2.heap.size ≠ g := Nat.ne_of_gt hs2
  have nqg : w2.heap.size + 1 ≠ g := by omega
  clear hp hq b3 hs3 HR2 HK2 HB2 hs2
  generalize w2.heap.size + 1 = q at *
  generalize w2.heap.size = p at *
  go_wp2_with fail
  go_loopw [10] (fun x wi => ∃ n : Nat, x = .int .i64 (n : Int) ∧ n ≤ 14 ∧ Hid (wi.rowIs g 82 16 (fun j => .int .u8 ((decR W f (14 - n) j).toNat : Int))) ∧ Hid (Kp g w3 wi)) (fun x _ => (intOf x).toNat)
  case atStart => exact ⟨14, rfl, by omega, HR3, Lib.hid (Kp.refl _ _)⟩
  clear HR3
  case round =>
    obtain ⟨n, rfl, hn2, HR, HP⟩ := hrel
    by_cases hln : 1 ≤ n
    · as_aux_lemma =>
      have hni : (1 : Int) ≤ n := by omega
      have hnw : IntKind.i64.wrap ((n : Int) - 1) = ((n - 1 : Nat) : Int) := by rw [IntWalk.i64_in _ (by omega)]; omega
      obtain ⟨t, ht⟩ : ∃ t, Hid (14 - n = t) := ⟨_, Lib.hid rfl⟩
      rw [ht.out] at HR
      go_wp2_with fail
      refine (add_row (decR W f t) W p q g kg n _ hn2 (Lib.hid (HK3.out.under hgk HP.out.below)) hgk npg nqg HR (Lib.hid (HP.out.cell npg HP3.out)) (Lib.hid (HP.out.cell nqg HQ3.out))).mono ?_
      rintro e w5 ⟨rfl, r5, k5, -⟩
      have HP5 := Lib.hid (HP.out.trans k5)
      have HR5 := Lib.hid r5
      clear r5 k5 HR HP
      by_cases hl : n < 14
      · as_aux_lemma =>
        have hli : (n : Int) < 14 := by omega
        go_wp2_with fail
        refine (mixD_any (fun i => decR W f t i ^^^ wB W n i) g _ HR5).mono ?_
        rintro e w6 ⟨rfl, r6, k6⟩
        have HP6 := Lib.hid (HP5.out.trans k6)
        have HR6 := Lib.hid r6
        clear r6 k6 HR5 HP5
        go_wp2_with fail
        refine (shift_any (mxB aD (fun i => decR W f t i ^^^ wB W n i)) g 3 _ (by omega) HR6).mono ?_
        rintro e w7 ⟨rfl, r7, k7⟩
        have HP7 := Lib.hid (HP6.out.trans k7)
        have HR7 := Lib.hid r7
        clear r7 k7 HR6 HP6
        go_wp2_with fail
        refine (each_back (fun j => mxB aD (fun i => decR W f t i ^^^ wB W n i) (srcS 3 j)) g kg W _ (Lib.hid (HK3.out.under hgk HP7.out.below)) hgk HR7).mono ?_
        rintro e w8 ⟨rfl, r8, k8⟩
        have HP8 := Lib.hid (HP7.out.trans k8)
        have HR8 := Lib.hid r8
        clear r8 k8 HR7 HP7
        go_wp2_with fail
        go_roundw
        case rel => exact ⟨n - 1, by first | rfl | go_num, by omega, Lib.hid (by
          rw [show 14 - (n - 1) = t + 1 by have := ht.out; omega, decR_next W f t (by have := ht.out; omega), show 14 - t = n by have := ht.out; omega]
          exact HR8.out), HP8⟩
        case measure => simp [intOf]; omega
      · as_aux_lemma =>
        obtain rfl : n = 14 := by omega
        obtain rfl : t = 0 := by have := ht.out; omega
        rw [show ((14 : Nat) : Int) = 14 from rfl] at *
        go_wp2_with fail
        refine (shift_any (fun i => decR W f 0 i ^^^ wB W 14 i) g 3 _ (by omega) HR5).mono ?_
        rintro e w7 ⟨rfl, r7, k7⟩
        have HP7 := Lib.hid (HP5.out.trans k7)
        have HR7 := Lib.hid r7
        clear r7 k7 HR5 HP5
        go_wp2_with fail
        refine (each_back (fun j => decR W f 0 (srcS 3 j) ^^^ wB W 14 (srcS 3 j)) g kg W _ (Lib.hid (HK3.out.under hgk HP7.out.below)) hgk HR7).mono ?_
        rintro e w8 ⟨rfl, r8, k8⟩
        have HP8 := Lib.hid (HP7.out.trans k8)
        have HR8 := Lib.hid r8
        clear r8 k8 HR7 HP7
        go_wp2_with fail
        go_roundw
        case rel => exact ⟨13, by first | rfl | go_num, by omega, HR8, HP8⟩
        case measure => simp [intOf]
    · as_aux_lemma =>
      obtain rfl : n = 0 := by omega
      rw [show ((0 : Nat) : Int) = 0 from rfl]
      go_wp2_with fail
      refine (add0_row (decR W f (14 - 0)) W p q g kg _ (Lib.hid (HK3.out.under hgk HP.out.below)) hgk npg nqg HR (Lib.hid (HP.out.cell npg HP3.out)) (Lib.hid (HP.out.cell nqg HQ3.out))).mono ?_
      rintro e w8 ⟨rfl, r8, k8⟩
      have HP8 := Lib.hid (HP.out.trans k8)
      have HR8 := Lib.hid r8
      clear r8 k8 HR HP
      obtain ⟨F, hF⟩ : ∃ F, Hid ((fun j => decR W f (14 - 0) j ^^^ wB W 0 j) = F) := ⟨_, Lib.hid rfl⟩
      have HR9 : Hid (w8.rowIs g 82 16 (fun j => .int .u8 ((F j).toNat : Int))) := Lib.hid (by rw [← hF.out]; exact HR8.out)
      clear HR8
      have hr15 := load16 HR9
      have HBE := Lib.hid (HB3.out.trans (HP8.out.below.mono HZ1.out))
      go_wp2_with (refine wpList_load_row rfl 82 _ rfl g rfl _ _ _ _ hr15 Try.underlying82 rfl (by rw [st16_size]; kernel_rfl) ?_)
      refine (text_any F _).mono ?_
      rintro e w9 ⟨rfl, b9⟩
      go_wp2_with fail
      go_ret2
      exact ⟨by (rw [← hF.out]; rfl), HBE.out.trans (b9.mono HBE.out.size)⟩
end Go.Proofs.Ytbbanhjcchnhpaa
