/- Level: awake. -/
import Derived.Test.YtdoeaepfjdjmmaaLwF
namespace Go.Proofs.Ytdoeaepfjdjmmaa
open Go.RowKit Go.Deep
set_option linter.unusedVariables false
set_option linter.unusedSimpArgs false
def aw1 : Nat → List Nat := put (fun _ => []) 2 1
def aw2 : Nat → List Nat := put aw1 0 1
def aw3 : Nat → List Nat := movA aw2 2 0
theorem aw_add1 : addA (fun _ => []) 4 2 1 = 0 := by decide
theorem aw_add2 : addA aw1 4 0 1 = 0 := by decide
theorem aw_touch : misA aw2 4 2 = 0 := by decide
theorem aw_list : rowL aw3 1 = [0, 2] := by decide
theorem aw_len : lenS aw3 4 = 2 := by decide
theorem aw_les : lesA aw3 = .tuple #[.int .i64 0, .bool true] := by
  unfold lesA
  rw [if_neg (by decide), if_pos (by decide)]
  unfold froA
  rw [if_pos (by decide)]
  rfl
set_option maxRecDepth 100000 in
set_option maxHeartbeats 8000000 in
theorem awake24 (w : World) : Calls Try.prog 8 #[] w fun e w' => e = .returned (.bool true) ∧ Below w.heap.size w w' := by
  have CN := Lib.hid (newQ_ok 4 w (by omega) (by omega))
  rw [show ((4 : Nat) : Int) = 4 from rfl] at CN
  go_enter Try.func8, Try.ntmps8
  go_wp2_with fail
  refine CN.out.mono ?_
  rintro e w1 ⟨g, rfl, q1, hg, b1⟩
  have HQ1 := Lib.hid q1
  have HB1 := Lib.hid b1
  clear q1 b1 CN
  have CA := Lib.hid (add_any w.heap.size g 4 _ 2 1 w1 HQ1.out hg)
  rw [aw_add1, if_pos rfl] at CA
  go_wp2_with fail
  refine CA.out.mono ?_
  rintro e w2 ⟨rfl, q2, k2⟩
  have HQ2 : Hid (QR w2 g 4 aw1) := Lib.hid q2
  have HB2 := Lib.hid (HB1.out.trans k2.below)
  clear q2 k2 CA HQ1 HB1
  have CB := Lib.hid (add_any w.heap.size g 4 _ 0 1 w2 HQ2.out hg)
  rw [aw_add2, if_pos rfl] at CB
  go_wp2_with fail
  refine CB.out.mono ?_
  rintro e w3 ⟨rfl, q2, k2⟩
  have HQ3 : Hid (QR w3 g 4 aw2) := Lib.hid q2
  have HB3 := Lib.hid (HB2.out.trans k2.below)
  clear q2 k2 CB HQ2 HB2
  have CT := Lib.hid (touch_any w.heap.size g 4 _ 2 w3 HQ3.out hg)
  rw [aw_touch, if_pos rfl] at CT
  go_wp2_with fail
  refine CT.out.mono ?_
  rintro e w4 ⟨rfl, q2, k2⟩
  have HQ4 : Hid (QR w4 g 4 aw3) := Lib.hid q2
  have HB4 := Lib.hid (HB3.out.trans k2.below)
  clear q2 k2 CT HQ3 HB3
  have CL := Lib.hid (least_any g 4 aw3 w4 HQ4.out)
  rw [aw_les] at CL
  have CR := Lib.hid (list_any g 4 aw3 1 w4 HQ4.out)
  rw [aw_list] at CR
  go_wp2_with fail
  refine CL.out.mono ?_
  rintro e w' ⟨rfl, rfl⟩
  clear CL
  go_wp2_with fail
  refine CR.out.mono ?_
  rintro e w5 ⟨v, base, rfl, hb5, ho, b5⟩
  obtain ⟨al, cl, rfl, hatl⟩ := own_zi ho
  have HB5 := Lib.hid (HB4.out.trans (b5.mono HB4.out.size))
  have HQ5 := Lib.hid (HQ4.out.below b5)
  have HAL : Hid (IntsAt w5 al 2 [0, 2]) := Lib.hid hatl
  rw [show ([0, 2] : List Nat).length = 2 from rfl]
  clear ho hatl b5 CR HB4 HQ4
  go_wp2_with fail
  have HNW : Hid (IntsAt (w5.alloc (.cells #[.int .i64 0, .int .i64 2] 3)) (some ⟨w5.heap.size, 0, none⟩) 2 [0, 2]) := Lib.hid (fun _ => ⟨w5.heap.size, 0, rfl, by simp, fun i hi => by
    rw [Nat.zero_add]
    match i, hi with
    | 0, _ => exact World.cell?_alloc_at (w := w5) _ _ _ _ rfl
    | 1, _ => exact World.cell?_alloc_at (w := w5) _ _ _ _ rfl⟩)
  have HBA : Hid (Below w5.heap.size w5 (w5.alloc (.cells #[.int .i64 0, .int .i64 2] 3))) := Lib.hid ((Below.refl _ _).alloc (Nat.le_refl _) _)
  refine (ints_raw al (some ⟨w5.heap.size, 0, none⟩) 2 2 cl 2 [0, 2] [0, 2] _ rfl rfl (HAL.out.below HBA.out) HNW.out (by decide) true (Lib.hid rfl)).mono ?_
  rintro e w6 ⟨rfl, b6⟩
  have B56 := HBA.out.trans (b6.mono HBA.out.size)
  have HQ6 := Lib.hid (HQ5.out.below B56)
  have HB6 := Lib.hid (HB5.out.trans (B56.mono HB5.out.size))
  clear B56 b6 HNW HBA HAL HQ5 HB5
  have CZ := Lib.hid (len_any g 4 aw3 w6 HQ6.out)
  rw [aw_len] at CZ
  go_wp2_with fail
  refine CZ.out.mono ?_
  rintro e w7 ⟨rfl, b7⟩
  have HB7 := Lib.hid (HB6.out.trans (b7.mono HB6.out.size))
  clear b7 CZ
  go_wp2_with fail
  go_ret
  exact ⟨rfl, HB7.out⟩
end Go.Proofs.Ytdoeaepfjdjmmaa
