/- Package aes (cellaret): contracts of the reference's turn, Box and Boxes. -/
import Derived.Test.YtbbanhjcchnhpaaAeA
namespace Go.Proofs.Ytbbanhjcchnhpaa
open Go.RowKit
set_option linter.unusedVariables false
set_option linter.unusedSimpArgs false
set_option maxRecDepth 100000 in
set_option maxHeartbeats 1000000 in
theorem r04turn_any (a k r : Nat) (w : World) (ha : a < 256) (hk : k < 8) (hr : Hid (rotN a k = r)) :
    Calls Try.prog 48 #[.int .i64 a, .int .i64 k] w fun e w' => e = .returned (.int .i64 r) ∧ w = w' := by
  have HT : Hid (a * 2 ^ k % 256 + a * 2 ^ k / 256 = r) := Lib.hid ((turnP_rot a k ha hk).trans hr.out)
  obtain ⟨p, hp⟩ : ∃ p, Hid (2 ^ k = p) := ⟨_, Lib.hid rfl⟩
  have PW := Lib.hid (fun w => power_raw k p w hk hp)
  rw [hp.out] at HT
  have hor : p = 1 ∨ p = 2 ∨ p = 4 ∨ p = 8 ∨ p = 16 ∨ p = 32 ∨ p = 64 ∨ p = 128 := by
    have hor : k = 0 ∨ k = 1 ∨ k = 2 ∨ k = 3 ∨ k = 4 ∨ k = 5 ∨ k = 6 ∨ k = 7 := by omega
    have := hp.out
    rcases hor with rfl | rfl | rfl | rfl | rfl | rfl | rfl | rfl <;> simp at this <;> omega
  clear hp
  go_enter Try.func48, Try.ntmps48
  go_wp2_with fail
  refine (PW.out _).mono ?_
  rintro e w' ⟨rfl, rfl⟩
  clear hr
  rcases hor with rfl | rfl | rfl | rfl | rfl | rfl | rfl | rfl
  all_goals
    go_wp2_with fail
    refine (PW.out _).mono ?_
    rintro e w' ⟨rfl, rfl⟩
    go_wp2_with fail
    go_ret
    exact ⟨ret_i64 (by have := HT.out; omega), rfl⟩
theorem r02add_to (a b r : Nat) (w : World) (ha : a < 256) (hb : b < 256) (h : Hid (a ^^^ b = r)) :
    Calls Try.prog 47 #[.int .i64 a, .int .i64 b] w fun e w' => e = .returned (.int .i64 (r : Int)) ∧ w = w' := by
  rw [← h.out]; exact r02add_any a b w (by omega) (by omega)
theorem r04box_any (b : Nat) (w : World) (hb : b < 256) :
    Calls Try.prog 16 #[.int .i64 b] w fun e w' => e = .returned (.int .i64 (boxN b : Nat)) ∧ w = w' := by
  have HB := Lib.hid (boxP b hb)
  obtain ⟨i, hi⟩ : ∃ i, Hid (ginv b = i) := ⟨_, Lib.hid rfl⟩
  have li : i < 256 := by rw [← hi.out]; exact ginv_lt' b hb
  rw [hi.out] at HB
  obtain ⟨t1, h1⟩ : ∃ t, Hid (rotN i 1 = t) := ⟨_, Lib.hid rfl⟩
  obtain ⟨t2, h2⟩ : ∃ t, Hid (rotN i 2 = t) := ⟨_, Lib.hid rfl⟩
  obtain ⟨t3, h3⟩ : ∃ t, Hid (rotN i 3 = t) := ⟨_, Lib.hid rfl⟩
  obtain ⟨t4, h4⟩ : ∃ t, Hid (rotN i 4 = t) := ⟨_, Lib.hid rfl⟩
  have l1 : t1 < 256 := by rw [← h1.out]; exact rotN_lt i 1 li
  have l2 : t2 < 256 := by rw [← h2.out]; exact rotN_lt i 2 li
  have l3 : t3 < 256 := by rw [← h3.out]; exact rotN_lt i 3 li
  have l4 : t4 < 256 := by rw [← h4.out]; exact rotN_lt i 4 li
  obtain ⟨s1, g1⟩ : ∃ t, Hid (i ^^^ t1 = t) := ⟨_, Lib.hid rfl⟩
  have m1 : s1 < 256 := by rw [← g1.out]; exact xor_lt _ _ li l1
  obtain ⟨s2, g2⟩ : ∃ t, Hid (t2 ^^^ t3 = t) := ⟨_, Lib.hid rfl⟩
  have m2 : s2 < 256 := by rw [← g2.out]; exact xor_lt _ _ l2 l3
  obtain ⟨s3, g3⟩ : ∃ t, Hid (s1 ^^^ s2 = t) := ⟨_, Lib.hid rfl⟩
  have m3 : s3 < 256 := by rw [← g3.out]; exact xor_lt _ _ m1 m2
  obtain ⟨s4, g4⟩ : ∃ t, Hid (s3 ^^^ t4 = t) := ⟨_, Lib.hid rfl⟩
  have m4 : s4 < 256 := by rw [← g4.out]; exact xor_lt _ _ m3 l4
  obtain ⟨s5, g5⟩ : ∃ t, Hid (s4 ^^^ 99 = t) := ⟨_, Lib.hid rfl⟩
  have HR : Hid (s5 = boxN b) := Lib.hid (by rw [← HB.out, h1.out, h2.out, h3.out, h4.out, g1.out, g2.out, g3.out, g4.out, g5.out])
  have CI := Lib.hid (fun w => r02inv_any b i w hb hi)
  have C1 := Lib.hid (fun w => r04turn_any i 1 t1 w li (by omega) h1)
  have C2 := Lib.hid (fun w => r04turn_any i 2 t2 w li (by omega) h2)
  have C3 := Lib.hid (fun w => r04turn_any i 3 t3 w li (by omega) h3)
  have C4 := Lib.hid (fun w => r04turn_any i 4 t4 w li (by omega) h4)
  have A1 := Lib.hid (fun w => r02add_to i t1 s1 w li l1 g1)
  have A2 := Lib.hid (fun w => r02add_to t2 t3 s2 w l2 l3 g2)
  have A3 := Lib.hid (fun w => r02add_to s1 s2 s3 w m1 m2 g3)
  have A4 := Lib.hid (fun w => r02add_to s3 t4 s4 w m3 l4 g4)
  have A5 := Lib.hid (fun w => r02add_to s4 99 s5 w m4 (by omega) g5)
  clear HB hi h1 h2 h3 h4 g1 g2 g3 g4 g5
  go_enter Try.func16, Try.ntmps16
  go_wp2_with fail
  refine (CI.out _).mono ?_
  rintro e w' ⟨rfl, rfl⟩
  go_wp2_with fail
  refine (C1.out _).mono ?_
  rintro e w' ⟨rfl, rfl⟩
  go_wp2_with fail
  refine (A1.out _).mono ?_
  rintro e w' ⟨rfl, rfl⟩
  go_wp2_with fail
  refine (C2.out _).mono ?_
  rintro e w' ⟨rfl, rfl⟩
  go_wp2_with fail
  refine (C3.out _).mono ?_
  rintro e w' ⟨rfl, rfl⟩
  go_wp2_with fail
  refine (A2.out _).mono ?_
  rintro e w' ⟨rfl, rfl⟩
  go_wp2_with fail
  refine (A3.out _).mono ?_
  rintro e w' ⟨rfl, rfl⟩
  go_wp2_with fail
  refine (C4.out _).mono ?_
  rintro e w' ⟨rfl, rfl⟩
  go_wp2_with fail
  refine (A4.out _).mono ?_
  rintro e w' ⟨rfl, rfl⟩
  go_wp2_with fail
  refine (A5.out _).mono ?_
  rintro e w' ⟨rfl, rfl⟩
  go_wp2_with fail
  go_ret
  exact ⟨by (rw [HR.out]; try rfl), rfl⟩
end Go.Proofs.Ytbbanhjcchnhpaa
