/- Package aes (cellaret): boxes, as numbers; contracts of Box, Unbox, and of the reference's. -/
import Derived.Test.YtbbanhjcchnhpaaGfF
namespace Go.Proofs.Ytbbanhjcchnhpaa
open Go.RowKit
set_option linter.unusedVariables false
set_option linter.unusedSimpArgs false
/-- A byte's image. -/
def boxN (b : Nat) : Nat := ((((ginv b ^^^ rotN (ginv b) 1) ^^^ rotN (ginv b) 2) ^^^ rotN (ginv b) 3) ^^^ rotN (ginv b) 4) ^^^ 99
/-- Whose image a byte is. -/
def unboxN (b : Nat) : Nat := ginv (((rotN b 1 ^^^ rotN b 3) ^^^ rotN b 6) ^^^ 5)
theorem boxN_lt (b : Nat) (hb : b < 256) : boxN b < 256 := of_decide_eq_true (all1 (p := fun b => decide (boxN b < 256)) 256 (by decide +kernel) b hb)
theorem unboxN_lt (b : Nat) (hb : b < 256) : unboxN b < 256 := of_decide_eq_true (all1 (p := fun b => decide (unboxN b < 256)) 256 (by decide +kernel) b hb)
theorem unbox_box (b : Nat) (hb : b < 256) : unboxN (boxN b) = b := of_decide_eq_true (all1 (p := fun b => decide (unboxN (boxN b) = b)) 256 (by decide +kernel) b hb)
theorem box_unbox (b : Nat) (hb : b < 256) : boxN (unboxN b) = b := of_decide_eq_true (all1 (p := fun b => decide (boxN (unboxN b) = b)) 256 (by decide +kernel) b hb)
/-- The page's turn. -/
def turnP (a n : Nat) : Nat := a * 2 ^ n % 256 + a * 2 ^ n / 256
theorem turnP_rot (a n : Nat) (ha : a < 256) (hn : n < 8) : turnP a n = rotN a n := by
  have h := all1 (p := fun a => (List.range 8).all fun n => decide (turnP a n = rotN a n)) 256 (by decide +kernel) a ha
  rw [List.all_eq_true] at h
  exact of_decide_eq_true (h n (List.mem_range.2 hn))
theorem boxP (b : Nat) (hb : b < 256) : (((ginv b ^^^ rotN (ginv b) 1) ^^^ (rotN (ginv b) 2 ^^^ rotN (ginv b) 3)) ^^^ rotN (ginv b) 4) ^^^ 99 = boxN b := by
  unfold boxN
  simp only [Nat.xor_assoc]
theorem turn_to (a k r : Nat) (w : World) (ha : a < 256) (hk : k < 8) (h : Hid (rotN a k = r)) :
    Calls Try.prog 45 #[.int .u8 a, .int .i64 (k : Int)] w fun e w' => e = .returned (.int .u8 (r : Int)) ∧ Below w.heap.size w w' := by
  have := turn_any a (k : Int) w ha
  rw [show ((k : Int) % 8).toNat = k by omega, h.out] at this
  exact this
theorem inv_to (a r : Nat) (w : World) (ha : a < 256) (h : Hid (ginv a = r)) :
    Calls Try.prog 43 #[.int .u8 a] w fun e w' => e = .returned (.int .u8 (r : Int)) ∧ Below w.heap.size w w' := by
  rw [← h.out]; exact inv_any a w ha
theorem addA_to (a b r : Nat) (w : World) (ha : a < 256) (hb : b < 256) (h : Hid (a ^^^ b = r)) :
    Calls Try.prog 44 #[.int .u8 a, .int .u8 b] w fun e w' => e = .returned (.int .u8 (r : Int)) ∧ w = w' := by
  rw [← h.out]; exact add_any a b w ha hb
theorem box_any (b : Nat) (w : World) (hb : b < 256) :
    Calls Try.prog 14 #[.int .u8 b] w fun e w' => e = .returned (.int .u8 (boxN b : Nat)) ∧ Below w.heap.size w w' := by
  obtain ⟨i, hi⟩ : ∃ i, Hid (ginv b = i) := ⟨_, Lib.hid rfl⟩
  have li : i < 256 := by rw [← hi.out]; exact ginv_lt' b hb
  obtain ⟨t1, h1⟩ : ∃ t, Hid (rotN i 1 = t) := ⟨_, Lib.hid rfl⟩
  obtain ⟨t2, h2⟩ : ∃ t, Hid (rotN i 2 = t) := ⟨_, Lib.hid rfl⟩
  obtain ⟨t3, h3⟩ : ∃ t, Hid (rotN i 3 = t) := ⟨_, Lib.hid rfl⟩
  obtain ⟨t4, h4⟩ : ∃ t, Hid (rotN i 4 = t) := ⟨_, Lib.hid rfl⟩
  have l1 : t1 < 256 := by rw [← h1.out]; exact rotN_lt i 1 li
  have l2 : t2 < 256 := by rw [← h2.out]; exact rotN_lt i 2 li
  have l3 : t3 < 256 := by rw [← h3.out]; exact rotN_lt i 3 li
  have l4 : t4 < 256 := by rw [← h4.out]; exact rotN_lt i 4 li
  obtain ⟨s1, g1⟩ : ∃ t, Hid (i ^^^ t1 = t) := ⟨_, Lib.hid rfl⟩
  have m1 : s1 < 256 := by rw [← g1.out]; exact xor_lt _ _ li l1
  obtain ⟨s2, g2⟩ : ∃ t, Hid (s1 ^^^ t2 = t) := ⟨_, Lib.hid rfl⟩
  have m2 : s2 < 256 := by rw [← g2.out]; exact xor_lt _ _ m1 l2
  obtain ⟨s3, g3⟩ : ∃ t, Hid (s2 ^^^ t3 = t) := ⟨_, Lib.hid rfl⟩
  have m3 : s3 < 256 := by rw [← g3.out]; exact xor_lt _ _ m2 l3
  obtain ⟨s4, g4⟩ : ∃ t, Hid (s3 ^^^ t4 = t) := ⟨_, Lib.hid rfl⟩
  have m4 : s4 < 256 := by rw [← g4.out]; exact xor_lt _ _ m3 l4
  obtain ⟨s5, g5⟩ : ∃ t, Hid (s4 ^^^ 99 = t) := ⟨_, Lib.hid rfl⟩
  have HR : Hid (s5 = boxN b) := Lib.hid (by unfold boxN; rw [hi.out, h1.out, h2.out, h3.out, h4.out, g1.out, g2.out, g3.out, g4.out, g5.out])
  have CI := Lib.hid (fun w => inv_to b i w hb hi)
  have C1 := Lib.hid (fun w => turn_to i 1 t1 w li (by omega) h1)
  have C2 := Lib.hid (fun w => turn_to i 2 t2 w li (by omega) h2)
  have C3 := Lib.hid (fun w => turn_to i 3 t3 w li (by omega) h3)
  have C4 := Lib.hid (fun w => turn_to i 4 t4 w li (by omega) h4)
  have A1 := Lib.hid (fun w => addA_to i t1 s1 w li l1 g1)
  have A2 := Lib.hid (fun w => addA_to s1 t2 s2 w m1 l2 g2)
  have A3 := Lib.hid (fun w => addA_to s2 t3 s3 w m2 l3 g3)
  have A4 := Lib.hid (fun w => addA_to s3 t4 s4 w m3 l4 g4)
  have A5 := Lib.hid (fun w => addA_to s4 99 s5 w m4 (by omega) g5)
  have hb5 : s5 < 256 := by rw [← g5.out]; exact xor_lt _ _ m4 (by omega)
  clear hi h1 h2 h3 h4 g1 g2 g3 g4 g5
  go_enter Try.func14, Try.ntmps14
  go_wp2_with fail
  refine (CI.out _).mono ?_
  rintro e w1 ⟨rfl, b1⟩
  go_wp2_with fail
  refine (C1.out _).mono ?_
  rintro e w2 ⟨rfl, b2⟩
  go_wp2_with fail
  refine (A1.out _).mono ?_
  rintro e w' ⟨rfl, rfl⟩
  go_wp2_with fail
  refine (C2.out _).mono ?_
  rintro e w3 ⟨rfl, b3⟩
  go_wp2_with fail
  refine (A2.out _).mono ?_
  rintro e w' ⟨rfl, rfl⟩
  go_wp2_with fail
  refine (C3.out _).mono ?_
  rintro e w4 ⟨rfl, b4⟩
  go_wp2_with fail
  refine (A3.out _).mono ?_
  rintro e w' ⟨rfl, rfl⟩
  go_wp2_with fail
  refine (C4.out _).mono ?_
  rintro e w5 ⟨rfl, b5⟩
  go_wp2_with fail
  refine (A4.out _).mono ?_
  rintro e w' ⟨rfl, rfl⟩
  go_wp2_with fail
  refine (A5.out _).mono ?_
  rintro e w' ⟨rfl, rfl⟩
  go_wp2_with fail
  go_ret
  exact ⟨by (rw [HR.out]; try rfl), below_trans (below_trans (below_trans (below_trans b1 b2) b3) b4) b5⟩
theorem unbox_any (b : Nat) (w : World) (hb : b < 256) :
    Calls Try.prog 17 #[.int .u8 b] w fun e w' => e = .returned (.int .u8 (unboxN b : Nat)) ∧ Below w.heap.size w w' := by
  obtain ⟨t1, h1⟩ : ∃ t, Hid (rotN b 1 = t) := ⟨_, Lib.hid rfl⟩
  obtain ⟨t2, h2⟩ : ∃ t, Hid (rotN b 3 = t) := ⟨_, Lib.hid rfl⟩
  obtain ⟨t3, h3⟩ : ∃ t, Hid (rotN b 6 = t) := ⟨_, Lib.hid rfl⟩
  have l1 : t1 < 256 := by rw [← h1.out]; exact rotN_lt b 1 hb
  have l2 : t2 < 256 := by rw [← h2.out]; exact rotN_lt b 3 hb
  have l3 : t3 < 256 := by rw [← h3.out]; exact rotN_lt b 6 hb
  obtain ⟨s1, g1⟩ : ∃ t, Hid (t1 ^^^ t2 = t) := ⟨_, Lib.hid rfl⟩
  have m1 : s1 < 256 := by rw [← g1.out]; exact xor_lt _ _ l1 l2
  obtain ⟨s2, g2⟩ : ∃ t, Hid (s1 ^^^ t3 = t) := ⟨_, Lib.hid rfl⟩
  have m2 : s2 < 256 := by rw [← g2.out]; exact xor_lt _ _ m1 l3
  obtain ⟨s3, g3⟩ : ∃ t, Hid (s2 ^^^ 5 = t) := ⟨_, Lib.hid rfl⟩
  have m3 : s3 < 256 := by rw [← g3.out]; exact xor_lt _ _ m2 (by omega)
  obtain ⟨r, hr⟩ : ∃ t, Hid (ginv s3 = t) := ⟨_, Lib.hid rfl⟩
  have HR : Hid (r = unboxN b) := Lib.hid (by unfold unboxN; rw [h1.out, h2.out, h3.out, g1.out, g2.out, g3.out, hr.out])
  have hr5 : r < 256 := by rw [← hr.out]; exact ginv_lt' _ m3
  have C1 := Lib.hid (fun w => turn_to b 1 t1 w hb (by omega) h1)
  have C2 := Lib.hid (fun w => turn_to b 3 t2 w hb (by omega) h2)
  have C3 := Lib.hid (fun w => turn_to b 6 t3 w hb (by omega) h3)
  have A1 := Lib.hid (fun w => addA_to t1 t2 s1 w l1 l2 g1)
  have A2 := Lib.hid (fun w => addA_to s1 t3 s2 w m1 l3 g2)
  have A3 := Lib.hid (fun w => addA_to s2 5 s3 w m2 (by omega) g3)
  have CI := Lib.hid (fun w => inv_to s3 r w m3 hr)
  clear h1 h2 h3 g1 g2 g3 hr
  go_enter Try.func17, Try.ntmps17
  go_wp2_with fail
  refine (C1.out _).mono ?_
  rintro e w1 ⟨rfl, b1⟩
  go_wp2_with fail
  refine (C2.out _).mono ?_
  rintro e w2 ⟨rfl, b2⟩
  go_wp2_with fail
  refine (A1.out _).mono ?_
  rintro e w' ⟨rfl, rfl⟩
  go_wp2_with fail
  refine (C3.out _).mono ?_
  rintro e w3 ⟨rfl, b3⟩
  go_wp2_with fail
  refine (A2.out _).mono ?_
  rintro e w' ⟨rfl, rfl⟩
  go_wp2_with fail
  refine (A3.out _).mono ?_
  rintro e w' ⟨rfl, rfl⟩
  go_wp2_with fail
  refine (CI.out _).mono ?_
  rintro e w4 ⟨rfl, b4⟩
  go_wp2_with fail
  go_ret
  exact ⟨by (rw [HR.out]; try rfl), below_trans (below_trans (below_trans b1 b2) b3) b4⟩
end Go.Proofs.Ytbbanhjcchnhpaa
