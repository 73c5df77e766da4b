/- Slots: awake. -/
import Derived.Test.YthhgodfgigcacaaSlK
namespace Go.Proofs.Ythhgodfgigcacaa
open Go.RowKit Go.Deep
set_option linter.unusedVariables false
set_option linter.unusedSimpArgs false
def aT0 : Nat → Sl := fun _ => frS
def aT1 : Nat → Sl := upd aT0 0 (gS 5)
def aT2 : Nat → Sl := upd aT1 0 (marS (aT1 0) 1 true true)
theorem aw_take : takE 2 aT0 5 = (0, 0) := by decide
theorem aw_takT : takT 2 aT0 5 = aT1 := by
  unfold takT
  rw [if_pos (by decide)]
  have h1 : fndO aT0 2 5 = none := by decide
  have h2 : freO aT0 2 = some 0 := by decide
  rw [h1, h2]
  rfl
theorem aw_mark : marE 2 aT1 0 1 true true = 0 := by decide
theorem aw_marT : marT 2 aT1 0 1 true true = aT2 := by unfold marT; rw [if_pos aw_mark]; rfl
theorem aw_find : fndO aT2 2 5 = some 0 := by decide
theorem aw_dirty : cntO (fun s : Sl => s.busy) aT2 2 = 1 := by decide
theorem aw_len : cntO (fun s : Sl => !decide (s = frS)) aT2 2 = 1 := by decide
theorem aw_ok : ∀ k, k < 8 → SlOk (aT2 k) := fun k hk => by
  rcases (show k = 0 ∨ k = 1 ∨ k = 2 ∨ k = 3 ∨ k = 4 ∨ k = 5 ∨ k = 6 ∨ k = 7 by omega) with rfl | rfl | rfl | rfl | rfl | rfl | rfl | rfl <;> exact ⟨by decide, by decide, by decide, by decide⟩
theorem aw_tx : txT aT2 8 ++ List.replicate 16 0 = zpadL [6, 34] 48 := by kernel_rfl
set_option maxRecDepth 100000 in
set_option maxHeartbeats 8000000 in
theorem awake22 (w : World) : Calls Try.prog 9 #[] w fun e w' => e = .returned (.bool true) ∧ Below w.heap.size w w' := by
  have CN := Lib.hid (newT_ok 2 w (by omega) (by omega))
  rw [show ((2 : Nat) : Int) = 2 from rfl] at CN
  go_enter Try.func9, Try.ntmps9
  go_wp2_with fail
  refine CN.out.mono ?_
  rintro e w1 ⟨g, rfl, q1, hg, b1⟩
  have CA := Lib.hid (takeT_any w.heap.size g 2 aT0 5 w1 q1 (by omega) hg)
  rw [aw_take, aw_takT] at CA
  have HB1 := Lib.hid b1
  clear b1 CN q1
  go_wp2_with fail
  refine CA.out.mono ?_
  rintro e w2 ⟨rfl, q2, k2⟩
  have HB2 := Lib.hid (HB1.out.trans k2.below)
  have CM := Lib.hid (markT_any w.heap.size g 2 aT1 0 1 true true w2 q2 (by omega) hg)
  rw [aw_mark, aw_marT] at CM
  clear q2 k2 CA HB1
  go_wp2_with fail
  refine CM.out.mono ?_
  rintro e w3 ⟨rfl, q3, k3⟩
  have HB3 := Lib.hid (HB2.out.trans k3.below)
  have HT3 := Lib.hid q3
  have CF := Lib.hid (findT_any g 2 aT2 5 w3 q3 (by omega))
  rw [aw_find] at CF
  unfold fstV at CF
  clear q3 k3 CM HB2
  go_wp2_with fail
  refine CF.out.mono ?_
  rintro e w4 ⟨rfl, b4⟩
  have HB4 := Lib.hid (HB3.out.trans (b4.mono HB3.out.size))
  have HT4 := Lib.hid (HT3.out.below b4)
  have CB := Lib.hid (bytesT_any g 2 aT2 w4 HT4.out aw_ok)
  rw [aw_tx] at CB
  have CU := Lib.hid (fun w => full_any ⟨#[6, 34]⟩ 48 w (by omega) (by decide))
  rw [show ((48 : Nat) : Int) = 48 from rfl, show ((⟨#[6, 34]⟩ : ByteArray).data.toList) = [6, 34] from rfl] at CU
  obtain ⟨z, hz⟩ : ∃ z, (⟨(zpadL [6, 34] 48).toArray⟩ : ByteArray) = z := ⟨_, rfl⟩
  rw [hz] at CB CU
  clear hz b4 CF HT3 HB3
  go_wp2_with fail
  refine CB.out.mono ?_
  rintro e w5 ⟨rfl, b5⟩
  have HB5 := Lib.hid (HB4.out.trans (b5.mono HB4.out.size))
  have HT5 := Lib.hid (HT4.out.below b5)
  clear b5 CB HT4 HB4
  go_wp2_with fail
  refine (CU.out w5).mono ?_
  rintro e w6 ⟨rfl, b6⟩
  have HB6 := Lib.hid (HB5.out.trans (b6.mono HB5.out.size))
  have HT6 := Lib.hid (HT5.out.below b6)
  have CD := Lib.hid (dirtyT_any g 2 aT2 w6 HT6.out (by omega))
  rw [aw_dirty] at CD
  clear b6 CU HT5 HB5
  go_wp2_with fail
  refine CD.out.mono ?_
  rintro e w7 ⟨rfl, b7⟩
  have HB7 := Lib.hid (HB6.out.trans (b7.mono HB6.out.size))
  have HT7 := Lib.hid (HT6.out.below b7)
  have CL := Lib.hid (lenT_any g 2 aT2 w7 HT7.out (by omega))
  rw [aw_len] at CL
  clear b7 CD HT6 HB6
  go_wp2_with fail
  refine CL.out.mono ?_
  rintro e w8 ⟨rfl, b8⟩
  have HB8 := Lib.hid (HB7.out.trans (b8.mono HB7.out.size))
  clear b8 CL HT7 HB7
  go_wp2_with fail
  go_ret
  exact ⟨rfl, HB8.out⟩
end Go.Proofs.Ythhgodfgigcacaa
