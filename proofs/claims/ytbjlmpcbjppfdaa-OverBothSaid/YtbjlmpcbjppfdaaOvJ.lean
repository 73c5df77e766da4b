/- Package over: awake, OverNone. -/
import Derived.Test.YtbjlmpcbjppfdaaOvI
namespace Go.Proofs.Ytbjlmpcbjppfdaa
open Go.RowKit Go.Deep Go.ChangeShapes Go.WideShapes
set_option linter.unusedVariables false
set_option linter.unusedSimpArgs false
def awL : List Pu := [(3, ⟨#[98]⟩), (5, ⟨#[97]⟩)]
theorem aw_set : setL (setL [] (5, ⟨#[97]⟩)) (3, ⟨#[98]⟩) = awL := by
  unfold setL delL insL awL
  simp
  unfold insL
  simp
theorem aw_find : gotV awL 5 = .tuple #[.string ⟨#[97]⟩, .bool true] := by unfold gotV findL awL; simp
set_option maxRecDepth 100000 in
set_option maxHeartbeats 8000000 in
theorem awake16 (w : World) : Calls Try.prog 12 #[] w fun e w' => e = .returned (.bool true) ∧ Below w.heap.size w w' := by
  have CN := Lib.hid (onew_any w)
  go_enter Try.func12, Try.ntmps12
  go_wp2_with fail
  refine CN.out.mono ?_
  rintro e w1 ⟨p, b, rfl, q1, b1⟩
  have HB1 := Lib.hid b1
  have CS := Lib.hid (oset_any ((5, ⟨#[97]⟩) : Pu) q1 (by unfold InI; omega) (by simp))
  clear q1 b1 CN
  go_wp2_with fail
  refine CS.out.mono ?_
  rintro e w2 ⟨rfl, q2, k2⟩
  have HB2 := Lib.hid (HB1.out.trans k2.below)
  have CS := Lib.hid (oset_any ((3, ⟨#[98]⟩) : Pu) q2 (by unfold InI; omega) (by have := setL_len [] ((5, ⟨#[97]⟩) : Pu); simp at this; omega))
  clear q2 k2
  go_wp2_with fail
  refine CS.out.mono ?_
  rintro e w3 ⟨rfl, q3, k3⟩
  rw [aw_set] at q3
  have HB3 := Lib.hid (HB2.out.trans k3.below)
  have CG := Lib.hid (oget_any 5 q3 (by unfold InI; omega))
  rw [aw_find] at CG
  have HQ3 := Lib.hid q3
  clear q3 k3 CS
  go_wp2_with fail
  refine CG.out.mono ?_
  rintro e w4 ⟨rfl, b4⟩
  have HB4 := Lib.hid (HB3.out.trans (b4.mono HB3.out.size))
  have CP := Lib.hid (oputs_any w.heap.size b (some ⟨p, 0, none⟩) awL w4 (Or.inr ⟨p, rfl, HQ3.out.below b4⟩) (by unfold awL; decide))
  clear b4 CG HQ3
  go_wp2_with fail
  refine CP.out.mono ?_
  rintro e w5 ⟨v, rfl, hO, b5⟩
  obtain ⟨ao, c, rfl, _, _, hpu⟩ := own_pu hO
  obtain ⟨w6, hw6⟩ : ∃ w6, w5.alloc (.cells #[.int .i64 3, .string ⟨#[98]⟩, .int .i64 5, .string ⟨#[97]⟩] 29) = w6 := ⟨_, rfl⟩
  have b6 : Below w5.heap.size w5 w6 := by rw [← hw6]; exact (Below.refl _ _).alloc (Nat.le_refl _) _
  have HU : PuAt w6 (some ⟨w5.heap.size, 0, none⟩) awL := fun _ => ⟨w5.heap.size, 0, rfl, by rw [← hw6]; simp, fun i hi => by
    have hi2 : i < 2 := hi
    rw [← hw6]
    rcases i with _ | _ | i
    · exact ⟨World.cell?_alloc_at _ _ _ _ rfl, World.cell?_alloc_at _ _ _ _ rfl⟩
    · exact ⟨World.cell?_alloc_at _ _ _ _ rfl, World.cell?_alloc_at _ _ _ _ rfl⟩
    · omega⟩
  have CE := Lib.hid (osame_any awL awL ao (some ⟨w5.heap.size, 0, none⟩) 2 c 2 2 w6 rfl rfl (by omega) (by omega) (hpu.below b6) HU)
  have HB5 := Lib.hid (HB4.out.trans (b5.mono HB4.out.size))
  have HB6 := Lib.hid (HB5.out.trans (b6.mono HB5.out.size))
  have HW := Lib.hid hw6
  have hl2 : awL.length = 2 := rfl
  rw [hl2]
  rw [decide_eq_true rfl] at CE
  clear hpu hO b5 b6 HU CP
  go_wp2_with fail
  refine CE.out.mono ?_
  rintro e w7 ⟨rfl, b7⟩
  have HB7 := Lib.hid (HB6.out.trans (b7.mono HB6.out.size))
  clear b7 CE
  go_wp2_with fail
  go_ret
  exact ⟨rfl, HB7.out⟩
end Go.Proofs.Ytbjlmpcbjppfdaa
