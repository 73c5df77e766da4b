/- Laws of package rig (cellaret): awake. -/
import Derived.Test.YtjmginkkjkbpoaaRiL
namespace Go.Proofs.Ytjmginkkjkbpoaa
open Go.RowKit Go.Deep
set_option linter.unusedVariables false
set_option linter.unusedSimpArgs false
def ak1 : RgS := ⟨zsB 96, false, 0, 0, 0, 0, ⟨#[]⟩, 2, 0⟩
def ak2 : RgS := ⟨zsB 96, false, 1, 0, 0, 0, ⟨#[]⟩, 2, 0⟩
def ak3 : RgS := ⟨zsB 96, true, 2, 0, 0, 0, ⟨#[]⟩, 2, 0⟩
def ak4 : RgS := ⟨zsB 96, false, 2, 0, 0, 0, ⟨#[]⟩, 0, 0⟩
def ak5 : RgS := ⟨zsB 96, false, 3, 0, 0, 0, ⟨#[]⟩, 0, 0⟩
theorem ak_1 : rgS0.arms 2 = ak1 := by unfold RgS.arms; rw [if_pos (by decide)]; rfl
theorem akn1 : ak1.next = 1 := by decide
theorem akn2 : ak2.next = 2 := by decide
theorem akn4 : ak4.next = 3 := by decide
theorem aft_go {S : RgS} (h1 : S.down = false) (h2 : S.next ≠ S.arm) : S.aft = S.on := by unfold RgS.aft; rw [if_neg (by rw [h1]; decide), if_neg h2]
theorem aft_arm {S : RgS} (h1 : S.down = false) (h2 : S.next = S.arm) : S.aft = S.gone := by unfold RgS.aft; rw [if_neg (by rw [h1]; decide), if_pos h2]
theorem out_go {S : RgS} (h1 : S.down = false) (h2 : S.next ≠ S.arm) (h3 : S.next ≠ S.faulty) : S.out = 0 := by unfold RgS.out; rw [if_neg (by rw [h1]; decide), if_neg h2, if_neg h3]
theorem out_arm {S : RgS} (h1 : S.down = false) (h2 : S.next = S.arm) : S.out = 11 := by unfold RgS.out; rw [if_neg (by rw [h1]; decide), if_pos h2]
theorem c0_same {S : RgS} (h2 : S.next ≠ S.st) (c : Nat → Bk) : S.c0 c = c := by
  unfold RgS.c0 RgS.hit0
  split
  · rfl
  · rw [if_neg (fun h => h2 h.1)]
theorem c1_same {S : RgS} (h2 : S.next ≠ S.st) (c : Nat → Bk) : S.c1 c = c := by
  unfold RgS.c1 RgS.hit1
  split
  · rfl
  · rw [if_neg (fun h => h2 h.1)]
theorem ak_2 : ak1.aft = ak2 := by rw [aft_go rfl (by rw [akn1]; decide)]; unfold RgS.on; rw [akn1]; rfl
theorem ak_3 : ak2.aft = ak3 := by rw [aft_arm rfl (by rw [akn2]; rfl)]; unfold RgS.gone; rw [akn2]; rfl
theorem ak_4 : ak3.crash = ak4 := rfl
theorem ak_5 : ak4.aft = ak5 := by rw [aft_go rfl (by rw [akn4]; decide)]; unfold RgS.on; rw [akn4]; rfl
theorem ako_1 : ak1.out = 0 := out_go rfl (by rw [akn1]; decide) (by rw [akn1]; decide)
theorem ako_2 : ak2.out = 11 := out_arm rfl (by rw [akn2]; rfl)
theorem ako_4 : ak4.out = 0 := out_go rfl (by rw [akn4]; decide) (by rw [akn4]; decide)
theorem stB_none (bs : Nat → Bk) (t : Nat → ByteArray) (k : Nat) (h : ∀ i, (bs i).wr = false) : stB bs t k = bs := by
  funext i
  unfold stB
  rw [if_neg (fun q => by rw [h i] at q; cases q.2)]
theorem zeroB_wr (i : Nat) : (zeroB i).wr = false := by unfold zeroB ofB; split <;> rfl
theorem zsB_list (m : Nat) : (zsB m).data.toList = List.replicate m 0 := by
  unfold zsB
  simp only []
  apply List.ext_getElem
  · simp
  · intro i h1 h2
    simp
theorem zsB_ext (m a b : Nat) (hb : b ≤ m) : (zsB m).extract a b = ⟨(List.replicate (b - a) 0).toArray⟩ := by
  have e : ((zsB m).extract a b).data.toList = List.replicate (b - a) 0 := by
    rw [ByteArray.data_extract, Array.toList_extract, zsB_list]
    simp
    omega
  have : (zsB m).extract a b = ⟨(((zsB m).extract a b).data.toList).toArray⟩ := rfl
  rw [this, e]
theorem zeroB_now (i : Nat) (h : i < 288) : (zeroB i).now = ⟨(List.replicate 64 0).toArray⟩ := by
  unfold zeroB ofB
  rw [if_pos h]
  have := zsB_ext (64 * 288) (i * 64) ((i + 1) * 64) (by omega)
  rw [show (i + 1) * 64 - i * 64 = 64 by omega] at this
  exact this
theorem zeroB_tx : TxB 288 zeroB := TxB.of _ _ (zsB_size _)
def lossN : LsV := ⟨none, 0, 0, fun _ => false, 0, 0⟩
theorem lossN_at (w : World) : LsAt w lossN := Or.inl rfl
theorem lossN_off (r : Nat) : LsOff lossN r := fun kb ko h => by cases h
set_option maxRecDepth 100000 in
set_option maxHeartbeats 3000000 in
theorem awake12 (w : World) : Calls Try.prog 6 #[] w fun e w' => e = .returned (.bool true) ∧ Below w.heap.size w w' := by
  have CA := Lib.hid (fun w => full_any ⟨#[97]⟩ 64 w (by omega) (by decide))
  have CZ := Lib.hid (fun w => zeros_any 64 w (by omega))
  rw [show ((64 : Nat) : Int) = 64 from rfl] at CA CZ
  have hA : (⟨(zpadL (⟨#[97]⟩ : ByteArray).data.toList 64).toArray⟩ : ByteArray).size = 64 := by decide +kernel
  generalize (⟨(zpadL (⟨#[97]⟩ : ByteArray).data.toList 64).toArray⟩ : ByteArray) = A at *
  have B : Nat := w.heap.size
  have C1 := Lib.hid (fun p w' hR => rigArm_any w.heap.size p rgS0 zeroB zeroB 2 w' hR)
  rw [ak_1, show rsE 2 = 0 by decide] at C1
  have C2 := Lib.hid (fun p w' hR hB => rigRead_ok w.heap.size p ak1 zeroB zeroB 0 5 w' hR (Or.inl rfl) hB (Or.inl rfl) (by omega))
  rw [ako_1, if_pos rfl, ak_2, c0_same (by rw [akn1]; decide), c1_same (by rw [akn1]; decide), show sel (0 : Int) zeroB zeroB = zeroB from rfl, zeroB_now 5 (by omega)] at C2
  have C3 := Lib.hid (fun p w' hR hB => rigWrite_ok w.heap.size p ak2 zeroB zeroB 0 5 A w' hR (Or.inl rfl) hB (by unfold rtE txE; rw [if_pos (Or.inl rfl), if_neg (by decide), if_pos hA]))
  rw [RgS.put_no (by rw [ako_2]; decide), RgS.put_no (by rw [ako_2]; decide), ako_2, ak_3, c0_same (by rw [akn2]; decide), c1_same (by rw [akn2]; decide)] at C3
  have C4 := Lib.hid (fun p w' hR => rigDown_any w.heap.size p ak3 zeroB zeroB w' hR)
  rw [show ak3.down = true from rfl] at C4
  have C5 := Lib.hid (fun p w' hR hB => rigCrash_any w.heap.size p ak3 zeroB zeroB lossN lossN w' hR hB zeroB_tx zeroB_tx (lossN_at _) (lossN_at _) (lossN_off _) (lossN_off _) (lossN_off _))
  rw [ak_4, stB_none _ _ _ zeroB_wr, show lossN.cells = #[.slice none 0 0, .int .i64 0, .int .i64 0] from rfl] at C5
  have C6 := Lib.hid (fun p w' hR hB => rigRead_ok w.heap.size p ak4 zeroB zeroB 0 5 w' hR (Or.inl rfl) hB (Or.inl rfl) (by omega))
  rw [ako_4, if_pos rfl, ak_5, c0_same (by rw [akn4]; decide), c1_same (by rw [akn4]; decide), show sel (0 : Int) zeroB zeroB = zeroB from rfl, zeroB_now 5 (by omega)] at C6
  have C7 := Lib.hid (fun p w' hR => rigCalls_any w.heap.size p ak5 zeroB zeroB w' hR)
  rw [show ak5.calls = 3 from rfl] at C7
  have C8 := Lib.hid (fun p w' hR => rigDev_any w.heap.size p ak5 zeroB zeroB 1 w' hR)
  simp only [dvV, if_neg (show ¬ (1 : Int) = 0 by decide), if_true] at C8
  rw [show ((5 : Nat) : Int) = 5 from rfl] at C2 C6
  clear hA
  generalize (⟨(List.replicate 64 0).toArray⟩ : ByteArray) = Z at *
  go_enter Try.func6, Try.ntmps6
  go_wp2_with fail
  refine (rigNew_any _).mono ?_
  rintro e w1 ⟨p, rfl, hR, b1⟩
  have HR1 := Lib.hid hR
  have HK1 : Hid (Kq w.heap.size p.l w w1) := Lib.hid (Kq.of_below b1 (Nat.le_refl _))
  clear hR b1
  go_wp2_with fail
  refine (CA.out _).mono ?_
  rintro e w2 ⟨rfl, b2⟩
  have HR2 := Lib.hid (HR1.out.below b2)
  have HK2 : Hid (Kq w.heap.size p.l w w2) := Lib.hid (HK1.out.trans (Kq.of_below b2 HK1.out.below.size))
  clear b2 HR1 HK1
  go_wp2_with fail
  refine (C1.out p _ HR2.out).mono ?_
  rintro e w3 ⟨rfl, hr, hk⟩
  have HR3 := Lib.hid hr
  have HK3 := Lib.hid (HK2.out.trans hk)
  clear hr hk HR2 HK2 C1
  go_wp2_with fail
  refine (C2.out p _ HR3.out HK3.out.below.size).mono ?_
  rintro e w4 ⟨rfl, hr, hk⟩
  have HR4 := Lib.hid hr
  have HK4 := Lib.hid (HK3.out.trans hk)
  clear hr hk HR3 HK3 C2
  go_wp2_with fail
  refine (C3.out p _ HR4.out HK4.out.below.size).mono ?_
  rintro e w5 ⟨rfl, hr, hk⟩
  have HR5 := Lib.hid hr
  have HK5 := Lib.hid (HK4.out.trans hk)
  clear hr hk HR4 HK4 C3
  go_wp2_with fail
  refine (C4.out p _ HR5.out).mono ?_
  rintro e w' ⟨rfl, rfl⟩
  go_wp2_with fail
  refine (C5.out p _ HR5.out HK5.out.below.size).mono ?_
  rintro e w6 ⟨rfl, hr, hk⟩
  have HR6 := Lib.hid hr
  have HK6 := Lib.hid (HK5.out.trans hk)
  clear hr hk HR5 HK5 C5 C4
  go_wp2_with fail
  refine (C6.out p _ HR6.out HK6.out.below.size).mono ?_
  rintro e w7 ⟨rfl, hr, hk⟩
  have HR7 := Lib.hid hr
  have HK7 := Lib.hid (HK6.out.trans hk)
  clear hr hk HR6 HK6 C6
  go_wp2_with fail
  refine (CZ.out _).mono ?_
  rintro e w8 ⟨rfl, b8⟩
  have HR8 := Lib.hid (HR7.out.below b8)
  have HK8 : Hid (Kq w.heap.size p.l w w8) := Lib.hid (HK7.out.trans (Kq.of_below b8 HK7.out.below.size))
  clear b8 HR7 HK7
  go_wp2_with fail
  refine (C7.out p _ HR8.out).mono ?_
  rintro e w' ⟨rfl, rfl⟩
  go_wp2_with fail
  refine (C8.out p _ HR8.out).mono ?_
  rintro e w' ⟨rfl, rfl⟩
  go_wp2_with fail
  go_ret
  exact ⟨by first | rfl | simp, HK8.out.below⟩
end Go.Proofs.Ytjmginkkjkbpoaa
