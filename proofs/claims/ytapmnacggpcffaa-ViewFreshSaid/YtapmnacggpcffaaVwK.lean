/- Laws of package view: awake. -/
import Derived.Test.YtapmnacggpcffaaVwJ
namespace Go.Proofs.Ytapmnacggpcffaa
open Go.RowKit Go.Deep
set_option linter.unusedVariables false
set_option linter.unusedSimpArgs false
theorem image_one (a : Int) (h : ByteArray) (w w3 : World) (hw : w.alloc (.cells #[.int .i64 a, .string h] 51) = w3) : Calls Try.prog 6 #[.slice (some ⟨w.heap.size, 0, none⟩) 1 1] w3 fun e w' => e = .returned (.string (imgT [(a, h)])) ∧ Below w3.heap.size w3 w' := by
  have k0 : w3.cell? ⟨w.heap.size, 0, none⟩ = some (.int .i64 a) := by rw [← hw]; exact World.cell?_alloc_at _ _ _ _ rfl
  have k1 : w3.cell? ⟨w.heap.size, 1, none⟩ = some (.string h) := by rw [← hw]; exact World.cell?_alloc_at _ _ _ _ rfl
  have ks : w.heap.size < w3.heap.size := by rw [← hw]; simp
  exact image_any (some ⟨w.heap.size, 0, none⟩) 1 [(a, h)] w3 (fun _ => ⟨w.heap.size, 0, rfl, ks, fun i hi => by
    have hi : i < 1 := hi
    obtain rfl : i = 0 := by omega
    exact ⟨k0, k1⟩⟩) (by simp)
theorem imB_one (w w3 : World) (hw : w.alloc (.cells #[.int .i64 227, .string hd7] 51) = w3) : Calls Try.prog 6 #[.slice (some ⟨w.heap.size, 0, none⟩) 1 1] w3 fun e w' => e = .returned (.string imB) ∧ Below w3.heap.size w3 w' := by
  unfold imB
  exact image_one 227 hd7 w w3 hw
theorem fresh_two (A B : ByteArray) (hA : A.size = 18432) (hB : B.size = 18432) (w w3 : World) (hw : w.alloc (.cells #[.string A, .string B] 9) = w3) : Calls Try.prog 14 #[.slice (some ⟨w.heap.size, 0, none⟩) 2 2] w3 (FreR [A, B] w3.heap.size w3) := by
  have k0 : w3.cell? ⟨w.heap.size, 0, none⟩ = some (.string A) := by rw [← hw]; exact World.cell?_alloc_at _ _ _ _ rfl
  have k1 : w3.cell? ⟨w.heap.size, 1, none⟩ = some (.string B) := by rw [← hw]; exact World.cell?_alloc_at _ _ _ _ rfl
  have ks : w.heap.size < w3.heap.size := by rw [← hw]; simp
  exact fresh_any (some ⟨w.heap.size, 0, none⟩) 2 [A, B] w3 (fun _ => ⟨w.heap.size, 0, rfl, ks, fun i hi => by
    have hi : i < 2 := hi
    have : i = 0 ∨ i = 1 := by omega
    rcases this with rfl | rfl
    · exact k0
    · exact k1⟩) (fun s hs => by
    simp at hs
    rcases hs with rfl | rfl
    · exact hA
    · exact hB) (by show (2 : Nat) ≤ _; omega)
theorem imA_size : imA.size = 18432 := imgT_size _
theorem imB_size : imB.size = 18432 := imgT_size _
theorem imA_none (w : World) : Calls Try.prog 6 #[.slice none 0 0] w fun e w' => e = .returned (.string imA) ∧ Below w.heap.size w w' := image_any none 0 [] w (fun h => absurd h (by simp)) (by simp)
theorem hd7_any (w : World) : Calls Try.prog 17 #[.int .i64 7, .int .i64 1] w fun e w' => e = .returned (.string hd7) ∧ Below w.heap.size w w' := rhead_raw 7 1 w (by decide) (by omega)
theorem numFre : freN [imA, imB] = 1 ∧ freE [imA, imB] = 0 := fre_some frAB
attribute [local irreducible] imA imB imgT difL freN freE frAll seenC numV zerV whatK whatI hd7
theorem differ_AB (w : World) : Calls Try.prog 11 #[.string imA, .string imB, .bool true] w fun e w' => ∃ p c, e = .returned (.tuple #[.slice p 1 c, .int .i64 0]) ∧ w'.ownsRow w.heap.size 3 1 (.slice p 1 c) 1 [.int .i64 227] ∧ Below w.heap.size w w' := by
  refine (differ_any imA imB true w imA_size imB_size).mono ?_
  rintro e w' ⟨p, c, h1, h2, h3⟩
  rw [difAB] at h1 h2
  exact ⟨p, c, h1, h2, h3⟩
theorem fresh_AB (w w3 : World) (hw : w.alloc (.cells #[.string imA, .string imB] 9) = w3) : Calls Try.prog 14 #[.slice (some ⟨w.heap.size, 0, none⟩) 2 2] w3 fun e w' => e = .returned (.tuple #[.int .i64 1, .int .i64 0]) ∧ Below w3.heap.size w3 w' := by
  refine (fresh_two imA imB imA_size imB_size w w3 hw).mono ?_
  rintro e w' ⟨h1, h2⟩
  rw [numFre.1, numFre.2] at h1
  exact ⟨h1, h2⟩
theorem seen_B : (seenC imB 288)[908]? = some (.int .i64 4) ∧ (seenC imB 288)[909]? = some (.int .i64 3) ∧ (seenC imB 288)[910]? = some (.int .i64 7) ∧ (seenC imB 288)[911]? = some (.bool false) := by
  obtain ⟨q0, q1, q2, q3⟩ := seenC_get imB 227 288 (by omega)
  rw [numB7] at q2
  rw [zerB7] at q3
  rw [show whatK ((227 : Nat) : Int) = 4 from whatK_4 (by omega)] at q0
  rw [show whatI ((227 : Nat) : Int) = 3 from by with_unfolding_all decide] at q1
  exact ⟨q0, q1, q2, q3⟩
set_option maxRecDepth 100000 in
set_option maxHeartbeats 16000000 in
theorem awake33 (w : World) : Calls Try.prog 9 #[] w fun e w' => e = .returned (.bool true) ∧ Below w.heap.size w w' := by
  have C1 := Lib.hid imA_none
  have C2 := Lib.hid hd7_any
  have C3 := Lib.hid imB_one
  have C4 := Lib.hid differ_AB
  have C5 := Lib.hid (fun w => look_any imB w imB_size)
  unfold LookR at C5
  have C6 := Lib.hid fresh_AB
  have HQ := Lib.hid seen_B
  have hes := eql_seen7
  generalize seenC imB 288 = SC at *
  generalize imA = A at *
  generalize imB = B at *
  generalize hd7 = h7 at *
  go_enter Try.func9, Try.ntmps9
  go_wp2_with fail
  refine (C1.out w).mono ?_
  rintro e w1 ⟨rfl, b1⟩
  go_wp2_with fail
  refine (C2.out w1).mono ?_
  rintro e w2 ⟨rfl, b2⟩
  have HB2 := Lib.hid (b1.trans (b2.mono b1.size))
  obtain ⟨w3, hw3⟩ : ∃ w3, w2.alloc (.cells #[.int .i64 227, .string h7] 51) = w3 := ⟨_, rfl⟩
  have b3 : Below w2.heap.size w2 w3 := by rw [← hw3]; exact (Below.refl _ _).alloc (Nat.le_refl _) _
  have C33 := Lib.hid (C3.out w2 w3 hw3)
  have HW3 := Lib.hid hw3
  have HB3 := Lib.hid (HB2.out.trans (b3.mono HB2.out.size))
  clear b1 b2 b3 hw3 C1 C2 C3 HB2
  go_wp2_with fail
  rw [HW3.out]
  refine C33.out.mono ?_
  rintro e w4 ⟨rfl, b4⟩
  have HB4 := Lib.hid (HB3.out.trans (b4.mono HB3.out.size))
  clear b4 HB3 HW3 C33
  go_wp2_with fail
  refine (C4.out w4).mono ?_
  rintro e w5 ⟨pd, cd, rfl, hod, b5⟩
  have HB5 := Lib.hid (HB4.out.trans (b5.mono HB4.out.size))
  have HD5 : Hid (w5.ownsRow w4.heap.size 3 1 (.slice pd 1 cd) 1 [.int .i64 227]) := Lib.hid hod
  clear b5 HB4 hod C4
  go_wp2_with fail
  refine (C5.out w5).mono ?_
  rintro e w6 ⟨pm, cm, rfl, hom, b6⟩
  have HB6 := Lib.hid (HB5.out.trans (b6.mono HB5.out.size))
  have HD6 := Lib.hid (HD5.out.kept_below b6)
  have HM6 := Lib.hid hom
  obtain ⟨w7, hw7⟩ : ∃ w7, w6.alloc (.cells #[.string A, .string B] 9) = w7 := ⟨_, rfl⟩
  have b7' : Below w6.heap.size w6 w7 := by rw [← hw7]; exact (Below.refl _ _).alloc (Nat.le_refl _) _
  have C66 := Lib.hid (C6.out w6 w7 hw7)
  have HW7 := Lib.hid hw7
  have HB7 := Lib.hid (HB6.out.trans (b7'.mono HB6.out.size))
  have HD7 := Lib.hid (HD6.out.kept_below b7')
  have HM7 := Lib.hid (HM6.out.kept_below b7')
  clear b6 HB5 hom C5 HD5 HD6 HM6 b7' hw7 C6 HB6
  go_wp2_with fail
  rw [HW7.out]
  refine C66.out.mono ?_
  rintro e w8 ⟨rfl, b8⟩
  have HB8 := Lib.hid (HB7.out.trans (b8.mono HB7.out.size))
  have HD8 := Lib.hid (HD7.out.kept_below b8)
  have HM8 := Lib.hid (HM7.out.kept_below b8)
  clear b8 HB7 HD7 HM7 HW7 C66
  obtain ⟨w9, hw9⟩ : ∃ w9, w8.alloc (.cells #[.int .i64 227] 3) = w9 := ⟨_, rfl⟩
  have b9 : Below w8.heap.size w8 w9 := by rw [← hw9]; exact (Below.refl _ _).alloc (Nat.le_refl _) _
  have HB9 := Lib.hid (HB8.out.trans (b9.mono HB8.out.size))
  have HM9 := Lib.hid (HM8.out.kept_below b9)
  have hD9 := (IntsAt.own (zs := [227]) (HD8.out.kept_below b9)).2
  have hI9 : IntsAt w9 (some ⟨w8.heap.size, 0, none⟩) 1 [227] := fun _ => ⟨w8.heap.size, 0, rfl, by rw [← hw9]; simp, fun i hi => by
    obtain rfl : i = 0 := by omega
    rw [← hw9]; exact World.cell?_alloc_at _ _ _ _ rfl⟩
  have C7 := Lib.hid (ints_raw pd (some ⟨w8.heap.size, 0, none⟩) 1 1 cd 1 [227] [227] w9 rfl rfl hD9 hI9 (by unfold maxLen; omega) true (Lib.hid (decide_eq_true rfl)))
  have HW9 := Lib.hid hw9
  clear b9 hD9 hI9 hw9 HD8 HM8 HB8
  go_wp2_with fail
  rw [HW9.out]
  refine C7.out.mono ?_
  rintro e w10 ⟨rfl, b10⟩
  have HB10 := Lib.hid (HB9.out.trans (b10.mono HB9.out.size))
  have HM10 := Lib.hid (HM9.out.kept_below b10)
  clear b10 HB9 HM9 HW9 C7
  rcases HM10.out.2 with ⟨e9, h0⟩ | ⟨gm, cap, cur, e9, _⟩
  · omega
  · injection e9 with e1 _ e3
    subst e1 e3
    obtain ⟨q0, q1, q2, q3⟩ := HQ.out
    have k0 := HM10.out.cells (g := gm) rfl _ _ q0
    have k1 := HM10.out.cells (g := gm) rfl _ _ q1
    have k2 := HM10.out.cells (g := gm) rfl _ _ q2
    have k3 := HM10.out.cells (g := gm) rfl _ _ q3
    rw [Addr.add_lit, Nat.zero_add] at k0 k1 k2 k3
    clear q0 q1 q2 q3 HQ
    have k0 : w10.cell? ⟨gm, 908, none⟩ = some (.int .i64 4) := k0
    have k1 : w10.cell? ⟨gm, 909, none⟩ = some (.int .i64 3) := k1
    have k2 : w10.cell? ⟨gm, 910, none⟩ = some (.int .i64 7) := k2
    have k3 : w10.cell? ⟨gm, 911, none⟩ = some (.bool false) := k3
    clear HM10
    go_wp2_with fail
    go_ret
    exact ⟨by first | rfl | simp, HB10.out⟩
end Go.Proofs.Ytapmnacggpcffaa
