/- Package aes (cellaret): boxes, as numbers; contracts of Box, Unbox, and of the reference's. -/
import Derived.Test.YtbbanhjcchnhpaaGfF
import Derived.Test.YtbbanhjcchnhpaaShC
import Derived.Deep.RegionWith
import Derived.Laws.Rows
import Derived.Laws.NewBlocks
namespace Go.Proofs.Ytbbanhjcchnhpaa
open Go.RowKit
set_option linter.unusedVariables false
set_option linter.unusedSimpArgs false
/-- A byte's image. -/
def boxN (b : Nat) : Nat := ((((ginv b ^^^ rotN (ginv b) 1) ^^^ rotN (ginv b) 2) ^^^ rotN (ginv b) 3) ^^^ rotN (ginv b) 4) ^^^ 99
/-- Whose image a byte is. -/
def unboxN (b : Nat) : Nat := ginv (((rotN b 1 ^^^ rotN b 3) ^^^ rotN b 6) ^^^ 5)
theorem boxN_lt (b : Nat) (hb : b < 256) : boxN b < 256 := of_decide_eq_true (all1 (p := fun b => decide (boxN b < 256)) 256 (by decide +kernel) b hb)
theorem unboxN_lt (b : Nat) (hb : b < 256) : unboxN b < 256 := of_decide_eq_true (all1 (p := fun b => decide (unboxN b < 256)) 256 (by decide +kernel) b hb)
theorem unbox_box (b : Nat) (hb : b < 256) : unboxN (boxN b) = b := of_decide_eq_true (all1 (p := fun b => decide (unboxN (boxN b) = b)) 256 (by decide +kernel) b hb)
theorem box_unbox (b : Nat) (hb : b < 256) : boxN (unboxN b) = b := of_decide_eq_true (all1 (p := fun b => decide (boxN (unboxN b) = b)) 256 (by decide +kernel) b hb)
/-- The page's turn. -/
def turnP (a n : Nat) : Nat := a * 2 ^ n % 256 + a * 2 ^ n / 256
theorem turnP_rot (a n : Nat) (ha : a < 256) (hn : n < 8) : turnP a n = rotN a n := by
  have h := all1 (p := fun a => (List.range 8).all fun n => decide (turnP a n = rotN a n)) 256 (by decide +kernel) a ha
  rw [List.all_eq_true] at h
  exact of_decide_eq_true (h n (List.mem_range.2 hn))
theorem boxP (b : Nat) (hb : b < 256) : (((ginv b ^^^ rotN (ginv b) 1) ^^^ (rotN (ginv b) 2 ^^^ rotN (ginv b) 3)) ^^^ rotN (ginv b) 4) ^^^ 99 = boxN b := by
  unfold boxN
  simp only [Nat.xor_assoc]
theorem turn_to (a k r : Nat) (w : World) (ha : a < 256) (hk : k < 8) (h : Hid (rotN a k = r)) :
    Calls Try.prog 45 #[.int .u8 a, .int .i64 (k : Int)] w fun e w' => e = .returned (.int .u8 (r : Int)) ∧ Below w.heap.size w w' := by
  have := turn_any a (k : Int) w ha
  rw [show ((k : Int) % 8).toNat = k by omega, h.out] at this
  exact this
theorem inv_to (a r : Nat) (w : World) (ha : a < 256) (h : Hid (ginv a = r)) :
    Calls Try.prog 43 #[.int .u8 a] w fun e w' => e = .returned (.int .u8 (r : Int)) ∧ Below w.heap.size w w' := by
  rw [← h.out]; exact inv_any a w ha
theorem addA_to (a b r : Nat) (w : World) (ha : a < 256) (hb : b < 256) (h : Hid (a ^^^ b = r)) :
    Calls Try.prog 44 #[.int .u8 a, .int .u8 b] w fun e w' => e = .returned (.int .u8 (r : Int)) ∧ w = w' := by
  rw [← h.out]; exact add_any a b w ha hb
theorem box_any (b : Nat) (w : World) (hb : b < 256) :
    Calls Try.prog 14 #[.int .u8 b] w fun e w' => e = .returned (.int .u8 (boxN b : Nat)) ∧ Below w.heap.size w w' := by
  obtain ⟨i, hi⟩ : ∃ i, Hid (ginv b = i) := ⟨_, Lib.hid rfl⟩
  have li : i < 256 := by rw [← hi.out]; exact ginv_lt' b hb
  obtain ⟨t1, h1⟩ : ∃ t, Hid (rotN i 1 = t) := ⟨_, Lib.hid rfl⟩
  obtain ⟨t2, h2⟩ : ∃ t, Hid (rotN i 2 = t) := ⟨_, Lib.hid rfl⟩
  obtain ⟨t3, h3⟩ : ∃ t, Hid (rotN i 3 = t) := ⟨_, Lib.hid rfl⟩
  obtain ⟨t4, h4⟩ : ∃ t, Hid (rotN i 4 = t) := ⟨_, Lib.hid rfl⟩
  have l1 : t1 < 256 := by rw [← h1.out]; exact rotN_lt i 1 li
  have l2 : t2 < 256 := by rw [← h2.out]; exact rotN_lt i 2 li
  have l3 : t3 < 256 := by rw [← h3.out]; exact rotN_lt i 3 li
  have l4 : t4 < 256 := by rw [← h4.out]; exact rotN_lt i 4 li
  obtain ⟨s1, g1⟩ : ∃ t, Hid (i ^^^ t1 = t) := ⟨_, Lib.hid rfl⟩
  have m1 : s1 < 256 := by rw [← g1.out]; exact xor_lt _ _ li l1
  obtain ⟨s2, g2⟩ : ∃ t, Hid (s1 ^^^ t2 = t) := ⟨_, Lib.hid rfl⟩
  have m2 : s2 < 256 := by rw [← g2.out]; exact xor_lt _ _ m1 l2
  obtain ⟨s3, g3⟩ : ∃ t, Hid (s2 ^^^ t3 = t) := ⟨_, Lib.hid rfl⟩
  have m3 : s3 < 256 := by rw [← g3.out]; exact xor_lt _ _ m2 l3
  obtain ⟨s4, g4⟩ : ∃ t, Hid (s3 ^^^ t4 = t) := ⟨_, Lib.hid rfl⟩
  have m4 : s4 < 256 := by rw [← g4.out]; exact xor_lt _ _ m3 l4
  obtain ⟨s5, g5⟩ : ∃ t, Hid (s4 ^^^ 99 = t) := ⟨_, Lib.hid rfl⟩
  have HR : Hid (s5 = boxN b) := Lib.hid (by unfold boxN; rw [hi.out, h1.out, h2.out, h3.out, h4.out, g1.out, g2.out, g3.out, g4.out, g5.out])
  have CI := Lib.hid (fun w => inv_to b i w hb hi)
  have C1 := Lib.hid (fun w => turn_to i 1 t1 w li (by omega) h1)
  have C2 := Lib.hid (fun w => turn_to i 2 t2 w li (by omega) h2)
  have C3 := Lib.hid (fun w => turn_to i 3 t3 w li (by omega) h3)
  have C4 := Lib.hid (fun w => turn_to i 4 t4 w li (by omega) h4)
  have A1 := Lib.hid (fun w => addA_to i t1 s1 w li l1 g1)
  have A2 := Lib.hid (fun w => addA_to s1 t2 s2 w m1 l2 g2)
  have A3 := Lib.hid (fun w => addA_to s2 t3 s3 w m2 l3 g3)
  have A4 := Lib.hid (fun w => addA_to s3 t4 s4 w m3 l4 g4)
  have A5 := Lib.hid (fun w => addA_to s4 99 s5 w m4 (by omega) g5)
  have hb5 : s5 < 256 := by rw [← g5.out]; exact xor_lt _ _ m4 (by omega)
  clear hi h1 h2 h3 h4 g1 g2 g3 g4 g5
  go_enter Try.func14, Try.ntmps14
  go_wp2_with fail
  refine (CI.out _).mono ?_
  rintro e w1 ⟨rfl, b1⟩
  go_wp2_with fail
  refine (C1.out _).mono ?_
  rintro e w2 ⟨rfl, b2⟩
  go_wp2_with fail
  refine (A1.out _).mono ?_
  rintro e w' ⟨rfl, rfl⟩
  go_wp2_with fail
  refine (C2.out _).mono ?_
  rintro e w3 ⟨rfl, b3⟩
  go_wp2_with fail
  refine (A2.out _).mono ?_
  rintro e w' ⟨rfl, rfl⟩
  go_wp2_with fail
  refine (C3.out _).mono ?_
  rintro e w4 ⟨rfl, b4⟩
  go_wp2_with fail
  refine (A3.out _).mono ?_
  rintro e w' ⟨rfl, rfl⟩
  go_wp2_with fail
  refine (C4.out _).mono ?_
  rintro e w5 ⟨rfl, b5⟩
  go_wp2_with fail
  refine (A4.out _).mono ?_
  rintro e w' ⟨rfl, rfl⟩
  go_wp2_with fail
  refine (A5.out _).mono ?_
  rintro e w' ⟨rfl, rfl⟩
  go_wp2_with fail
  go_ret
  exact ⟨by (rw [HR.out]; try rfl), below_trans (below_trans (below_trans (below_trans b1 b2) b3) b4) b5⟩
theorem unbox_any (b : Nat) (w : World) (hb : b < 256) :
    Calls Try.prog 17 #[.int .u8 b] w fun e w' => e = .returned (.int .u8 (unboxN b : Nat)) ∧ Below w.heap.size w w' := by
  obtain ⟨t1, h1⟩ : ∃ t, Hid (rotN b 1 = t) := ⟨_, Lib.hid rfl⟩
  obtain ⟨t2, h2⟩ : ∃ t, Hid (rotN b 3 = t) := ⟨_, Lib.hid rfl⟩
  obtain ⟨t3, h3⟩ : ∃ t, Hid (rotN b 6 = t) := ⟨_, Lib.hid rfl⟩
  have l1 : t1 < 256 := by rw [← h1.out]; exact rotN_lt b 1 hb
  have l2 : t2 < 256 := by rw [← h2.out]; exact rotN_lt b 3 hb
  have l3 : t3 < 256 := by rw [← h3.out]; exact rotN_lt b 6 hb
  obtain ⟨s1, g1⟩ : ∃ t, Hid (t1 ^^^ t2 = t) := ⟨_, Lib.hid rfl⟩
  have m1 : s1 < 256 := by rw [← g1.out]; exact xor_lt _ _ l1 l2
  obtain ⟨s2, g2⟩ : ∃ t, Hid (s1 ^^^ t3 = t) := ⟨_, Lib.hid rfl⟩
  have m2 : s2 < 256 := by rw [← g2.out]; exact xor_lt _ _ m1 l3
  obtain ⟨s3, g3⟩ : ∃ t, Hid (s2 ^^^ 5 = t) := ⟨_, Lib.hid rfl⟩
  have m3 : s3 < 256 := by rw [← g3.out]; exact xor_lt _ _ m2 (by omega)
  obtain ⟨r, hr⟩ : ∃ t, Hid (ginv s3 = t) := ⟨_, Lib.hid rfl⟩
  have HR : Hid (r = unboxN b) := Lib.hid (by unfold unboxN; rw [h1.out, h2.out, h3.out, g1.out, g2.out, g3.out, hr.out])
  have hr5 : r < 256 := by rw [← hr.out]; exact ginv_lt' _ m3
  have C1 := Lib.hid (fun w => turn_to b 1 t1 w hb (by omega) h1)
  have C2 := Lib.hid (fun w => turn_to b 3 t2 w hb (by omega) h2)
  have C3 := Lib.hid (fun w => turn_to b 6 t3 w hb (by omega) h3)
  have A1 := Lib.hid (fun w => addA_to t1 t2 s1 w l1 l2 g1)
  have A2 := Lib.hid (fun w => addA_to s1 t3 s2 w m1 l3 g2)
  have A3 := Lib.hid (fun w => addA_to s2 5 s3 w m2 (by omega) g3)
  have CI := Lib.hid (fun w => inv_to s3 r w m3 hr)
  clear h1 h2 h3 g1 g2 g3 hr
  go_enter Try.func17, Try.ntmps17
  go_wp2_with fail
  refine (C1.out _).mono ?_
  rintro e w1 ⟨rfl, b1⟩
  go_wp2_with fail
  refine (C2.out _).mono ?_
  rintro e w2 ⟨rfl, b2⟩
  go_wp2_with fail
  refine (A1.out _).mono ?_
  rintro e w' ⟨rfl, rfl⟩
  go_wp2_with fail
  refine (C3.out _).mono ?_
  rintro e w3 ⟨rfl, b3⟩
  go_wp2_with fail
  refine (A2.out _).mono ?_
  rintro e w' ⟨rfl, rfl⟩
  go_wp2_with fail
  refine (A3.out _).mono ?_
  rintro e w' ⟨rfl, rfl⟩
  go_wp2_with fail
  refine (CI.out _).mono ?_
  rintro e w4 ⟨rfl, b4⟩
  go_wp2_with fail
  go_ret
  exact ⟨by (rw [HR.out]; try rfl), below_trans (below_trans (below_trans b1 b2) b3) b4⟩
end Go.Proofs.Ytbbanhjcchnhpaa

/- Package aes (cellaret): contracts of the reference's turn, Box and Boxes. -/
namespace Go.Proofs.Ytbbanhjcchnhpaa
open Go.RowKit
set_option linter.unusedVariables false
set_option linter.unusedSimpArgs false
set_option maxRecDepth 100000 in
set_option maxHeartbeats 1000000 in
theorem r04turn_any (a k r : Nat) (w : World) (ha : a < 256) (hk : k < 8) (hr : Hid (rotN a k = r)) :
    Calls Try.prog 48 #[.int .i64 a, .int .i64 k] w fun e w' => e = .returned (.int .i64 r) ∧ w = w' := by
  have HT : Hid (a * 2 ^ k % 256 + a * 2 ^ k / 256 = r) := Lib.hid ((turnP_rot a k ha hk).trans hr.out)
  obtain ⟨p, hp⟩ : ∃ p, Hid (2 ^ k = p) := ⟨_, Lib.hid rfl⟩
  have PW := Lib.hid (fun w => power_raw k p w hk hp)
  rw [hp.out] at HT
  have hor : p = 1 ∨ p = 2 ∨ p = 4 ∨ p = 8 ∨ p = 16 ∨ p = 32 ∨ p = 64 ∨ p = 128 := by
    have hor : k = 0 ∨ k = 1 ∨ k = 2 ∨ k = 3 ∨ k = 4 ∨ k = 5 ∨ k = 6 ∨ k = 7 := by omega
    have := hp.out
    rcases hor with rfl | rfl | rfl | rfl | rfl | rfl | rfl | rfl <;> simp at this <;> omega
  clear hp
  go_enter Try.func48, Try.ntmps48
  go_wp2_with fail
  refine (PW.out _).mono ?_
  rintro e w' ⟨rfl, rfl⟩
  clear hr
  rcases hor with rfl | rfl | rfl | rfl | rfl | rfl | rfl | rfl
  all_goals
    go_wp2_with fail
    refine (PW.out _).mono ?_
    rintro e w' ⟨rfl, rfl⟩
    go_wp2_with fail
    go_ret
    exact ⟨ret_i64 (by have := HT.out; omega), rfl⟩
theorem r02add_to (a b r : Nat) (w : World) (ha : a < 256) (hb : b < 256) (h : Hid (a ^^^ b = r)) :
    Calls Try.prog 47 #[.int .i64 a, .int .i64 b] w fun e w' => e = .returned (.int .i64 (r : Int)) ∧ w = w' := by
  rw [← h.out]; exact r02add_any a b w (by omega) (by omega)
theorem r04box_any (b : Nat) (w : World) (hb : b < 256) :
    Calls Try.prog 16 #[.int .i64 b] w fun e w' => e = .returned (.int .i64 (boxN b : Nat)) ∧ w = w' := by
  have HB := Lib.hid (boxP b hb)
  obtain ⟨i, hi⟩ : ∃ i, Hid (ginv b = i) := ⟨_, Lib.hid rfl⟩
  have li : i < 256 := by rw [← hi.out]; exact ginv_lt' b hb
  rw [hi.out] at HB
  obtain ⟨t1, h1⟩ : ∃ t, Hid (rotN i 1 = t) := ⟨_, Lib.hid rfl⟩
  obtain ⟨t2, h2⟩ : ∃ t, Hid (rotN i 2 = t) := ⟨_, Lib.hid rfl⟩
  obtain ⟨t3, h3⟩ : ∃ t, Hid (rotN i 3 = t) := ⟨_, Lib.hid rfl⟩
  obtain ⟨t4, h4⟩ : ∃ t, Hid (rotN i 4 = t) := ⟨_, Lib.hid rfl⟩
  have l1 : t1 < 256 := by rw [← h1.out]; exact rotN_lt i 1 li
  have l2 : t2 < 256 := by rw [← h2.out]; exact rotN_lt i 2 li
  have l3 : t3 < 256 := by rw [← h3.out]; exact rotN_lt i 3 li
  have l4 : t4 < 256 := by rw [← h4.out]; exact rotN_lt i 4 li
  obtain ⟨s1, g1⟩ : ∃ t, Hid (i ^^^ t1 = t) := ⟨_, Lib.hid rfl⟩
  have m1 : s1 < 256 := by rw [← g1.out]; exact xor_lt _ _ li l1
  obtain ⟨s2, g2⟩ : ∃ t, Hid (t2 ^^^ t3 = t) := ⟨_, Lib.hid rfl⟩
  have m2 : s2 < 256 := by rw [← g2.out]; exact xor_lt _ _ l2 l3
  obtain ⟨s3, g3⟩ : ∃ t, Hid (s1 ^^^ s2 = t) := ⟨_, Lib.hid rfl⟩
  have m3 : s3 < 256 := by rw [← g3.out]; exact xor_lt _ _ m1 m2
  obtain ⟨s4, g4⟩ : ∃ t, Hid (s3 ^^^ t4 = t) := ⟨_, Lib.hid rfl⟩
  have m4 : s4 < 256 := by rw [← g4.out]; exact xor_lt _ _ m3 l4
  obtain ⟨s5, g5⟩ : ∃ t, Hid (s4 ^^^ 99 = t) := ⟨_, Lib.hid rfl⟩
  have HR : Hid (s5 = boxN b) := Lib.hid (by rw [← HB.out, h1.out, h2.out, h3.out, h4.out, g1.out, g2.out, g3.out, g4.out, g5.out])
  have CI := Lib.hid (fun w => r02inv_any b i w hb hi)
  have C1 := Lib.hid (fun w => r04turn_any i 1 t1 w li (by omega) h1)
  have C2 := Lib.hid (fun w => r04turn_any i 2 t2 w li (by omega) h2)
  have C3 := Lib.hid (fun w => r04turn_any i 3 t3 w li (by omega) h3)
  have C4 := Lib.hid (fun w => r04turn_any i 4 t4 w li (by omega) h4)
  have A1 := Lib.hid (fun w => r02add_to i t1 s1 w li l1 g1)
  have A2 := Lib.hid (fun w => r02add_to t2 t3 s2 w l2 l3 g2)
  have A3 := Lib.hid (fun w => r02add_to s1 s2 s3 w m1 m2 g3)
  have A4 := Lib.hid (fun w => r02add_to s3 t4 s4 w m3 l4 g4)
  have A5 := Lib.hid (fun w => r02add_to s4 99 s5 w m4 (by omega) g5)
  clear HB hi h1 h2 h3 h4 g1 g2 g3 g4 g5
  go_enter Try.func16, Try.ntmps16
  go_wp2_with fail
  refine (CI.out _).mono ?_
  rintro e w' ⟨rfl, rfl⟩
  go_wp2_with fail
  refine (C1.out _).mono ?_
  rintro e w' ⟨rfl, rfl⟩
  go_wp2_with fail
  refine (A1.out _).mono ?_
  rintro e w' ⟨rfl, rfl⟩
  go_wp2_with fail
  refine (C2.out _).mono ?_
  rintro e w' ⟨rfl, rfl⟩
  go_wp2_with fail
  refine (C3.out _).mono ?_
  rintro e w' ⟨rfl, rfl⟩
  go_wp2_with fail
  refine (A2.out _).mono ?_
  rintro e w' ⟨rfl, rfl⟩
  go_wp2_with fail
  refine (A3.out _).mono ?_
  rintro e w' ⟨rfl, rfl⟩
  go_wp2_with fail
  refine (C4.out _).mono ?_
  rintro e w' ⟨rfl, rfl⟩
  go_wp2_with fail
  refine (A4.out _).mono ?_
  rintro e w' ⟨rfl, rfl⟩
  go_wp2_with fail
  refine (A5.out _).mono ?_
  rintro e w' ⟨rfl, rfl⟩
  go_wp2_with fail
  go_ret
  exact ⟨by (rw [HR.out]; try rfl), rfl⟩
end Go.Proofs.Ytbbanhjcchnhpaa

/- Package aes (cellaret): contracts of word and bytesOf. -/
namespace Go.Proofs.Ytbbanhjcchnhpaa
open Go.RowKit Go.Deep
set_option linter.unusedVariables false
set_option linter.unusedSimpArgs false
theorem be4_nat (a b c d : UInt8) : (be4 a b c d).toNat = a.toNat * 16777216 + b.toNat * 65536 + c.toNat * 256 + d.toNat := by
  have h1 := a.toNat_lt
  have h2 := b.toNat_lt
  have h3 := c.toNat_lt
  have h4 := d.toNat_lt
  unfold be4
  rw [UInt32.toNat_ofNat']
  omega
/-- Four bytes as a value. -/
@[reducible] def b4v (a b c d : UInt8) : Value := .agg #[.int .u8 (a.toNat : Int), .int .u8 (b.toNat : Int), .int .u8 (c.toNat : Int), .int .u8 (d.toNat : Int)]
/-- A word's bytes, from the greatest. -/
def byW (x : UInt32) (i : Nat) : UInt8 := UInt8.ofNat (x.toNat / 256 ^ (3 - i))
theorem be4_byW (x : UInt32) : be4 (byW x 0) (byW x 1) (byW x 2) (byW x 3) = x := by
  have hx := x.toNat_lt
  rw [← UInt32.toNat_inj, be4_nat]
  unfold byW
  simp only [UInt8.toNat_ofNat']
  omega
theorem byW_be4 (a b c d : UInt8) : byW (be4 a b c d) 0 = a ∧ byW (be4 a b c d) 1 = b ∧ byW (be4 a b c d) 2 = c ∧ byW (be4 a b c d) 3 = d := by
  have h1 := a.toNat_lt
  have h2 := b.toNat_lt
  have h3 := c.toNat_lt
  have h4 := d.toNat_lt
  refine ⟨?_, ?_, ?_, ?_⟩ <;> rw [← UInt8.toNat_inj] <;> unfold byW <;> rw [UInt8.toNat_ofNat', be4_nat] <;> simp <;> omega
set_option maxHeartbeats 1000000 in
theorem word_any (a b c d : UInt8) (w : World) :
    Calls Try.prog 49 #[b4v a b c d] w fun e w' => e = .returned (wv (be4 a b c d)) ∧ Below w.heap.size w w' := by
  have hw := be4_walk a b c d
  simp only [IntKind.wrap_u32'] at hw
  have HW := Lib.hid hw
  clear hw
  go_enter Try.func49, Try.ntmps49
  go_wp2
  go_ret
  refine ⟨?_, ?_⟩
  · exact congrArg (fun z => Ending.returned (Value.int .u32 z)) HW.out
  · exact (Below.refl _ _).alloc (Nat.le_refl _) _
theorem byW_int (x : UInt32) : ((byW x 0).toNat : Int) = (x.toNat : Int) / 16777216 ∧ ((byW x 1).toNat : Int) = (x.toNat : Int) / 65536 % 256 ∧ ((byW x 2).toNat : Int) = (x.toNat : Int) / 256 % 256 ∧ ((byW x 3).toNat : Int) = (x.toNat : Int) % 256 := by
  have hx := x.toNat_lt
  unfold byW
  simp only [UInt8.toNat_ofNat']
  refine ⟨?_, ?_, ?_, ?_⟩ <;> simp <;> omega
set_option maxHeartbeats 1000000 in
theorem bytesOf_any (x : UInt32) (w : World) :
    Calls Try.prog 76 #[wv x] w fun e w' => e = .returned (b4v (byW x 0) (byW x 1) (byW x 2) (byW x 3)) ∧ Below w.heap.size w w' := by
  have hx := x.toNat_lt
  have HE := Lib.hid (byW_int x)
  go_enter Try.func76, Try.ntmps76
  go_wp2
  obtain ⟨e0, e1, e2, e3⟩ := HE.out
  rw [← e0, ← e1, ← e2, ← e3]
  refine bodyPost_ret_by (results_cell_row rfl _ _ w.heap.size 76 _ (0, 0) _ rfl (heap_alloc_new _ _) Try.underlying76 rfl (by kernel_rfl)) rfl ⟨rfl, (Below.refl _ _).alloc (Nat.le_refl _) _⟩
end Go.Proofs.Ytbbanhjcchnhpaa

/- Package aes (cellaret): the contract of (*Key).image. -/
namespace Go.Proofs.Ytbbanhjcchnhpaa
open Go.RowKit Go.Deep
set_option linter.unusedVariables false
set_option linter.unusedSimpArgs false
/-- A byte's image, as a byte; whose it is. -/
def bx (b : UInt8) : UInt8 := UInt8.ofNat (boxN b.toNat)
def ux (b : UInt8) : UInt8 := UInt8.ofNat (unboxN b.toNat)
theorem bx_nat (b : UInt8) : (bx b).toNat = boxN b.toNat := by
  unfold bx; rw [UInt8.toNat_ofNat']; exact Nat.mod_eq_of_lt (boxN_lt _ b.toNat_lt)
theorem ux_nat (b : UInt8) : (ux b).toNat = unboxN b.toNat := by
  unfold ux; rw [UInt8.toNat_ofNat']; exact Nat.mod_eq_of_lt (unboxN_lt _ b.toNat_lt)
theorem ux_bx (b : UInt8) : ux (bx b) = b := by rw [← UInt8.toNat_inj, ux_nat, bx_nat, unbox_box _ b.toNat_lt]
theorem bx_ux (b : UInt8) : bx (ux b) = b := by rw [← UInt8.toNat_inj, bx_nat, ux_nat, box_unbox _ b.toNat_lt]
/-- A word's image. -/
def imgW (x : UInt32) : UInt32 := be4 (bx (byW x 0)) (bx (byW x 1)) (bx (byW x 2)) (bx (byW x 3))
/-- The images that a key has. -/
def BoxAt (w : World) (g : Nat) : Prop := ∀ b : UInt8, w.cell? ⟨g, 60 + b.toNat, none⟩ = some (.int .u8 ((bx b).toNat : Int))
def UnAt (w : World) (g : Nat) : Prop := ∀ b : UInt8, w.cell? ⟨g, 316 + b.toNat, none⟩ = some (.int .u8 ((ux b).toNat : Int))
def mI (y : Nat → UInt8) (k j : Nat) : UInt8 := if j < k then bx (y j) else y j
@[reducible] def r4v (f : Nat → UInt8) : Array Value := #[.int .u8 ((f 0).toNat : Int), .int .u8 ((f 1).toNat : Int), .int .u8 ((f 2).toNat : Int), .int .u8 ((f 3).toNat : Int)]
theorem index_b4 (y : Nat → UInt8) : (∀ w, (Instr.index 76 (b4v (y 0) (y 1) (y 2) (y 3)) (.int .i64 0)).run Try.prog w = .ok (.int .u8 ((y 0).toNat : Int)) w) ∧ (∀ w, (Instr.index 76 (b4v (y 0) (y 1) (y 2) (y 3)) (.int .i64 1)).run Try.prog w = .ok (.int .u8 ((y 1).toNat : Int)) w) ∧ (∀ w, (Instr.index 76 (b4v (y 0) (y 1) (y 2) (y 3)) (.int .i64 2)).run Try.prog w = .ok (.int .u8 ((y 2).toNat : Int)) w) ∧ (∀ w, (Instr.index 76 (b4v (y 0) (y 1) (y 2) (y 3)) (.int .i64 3)).run Try.prog w = .ok (.int .u8 ((y 3).toNat : Int)) w) :=
  ⟨fun _ => by kernel_rfl, fun _ => by kernel_rfl, fun _ => by kernel_rfl, fun _ => by kernel_rfl⟩
set_option maxRecDepth 100000 in
set_option maxHeartbeats 2000000 in
theorem image_any (x : UInt32) (g : Nat) (w : World) (hB : Hid (BoxAt w g)) (hg : g < w.heap.size) :
    Calls Try.prog 50 #[.pointer (some ⟨g, 0, none⟩), wv x] w fun e w' => e = .returned (wv (imgW x)) ∧ Below w.heap.size w w' := by
  unfold imgW
  have CB := Lib.hid (fun w => bytesOf_any x w)
  obtain ⟨y, hy⟩ : ∃ y, Hid (byW x = y) := ⟨_, Lib.hid rfl⟩
  rw [hy.out] at CB ⊢
  clear hy
  have CW := Lib.hid (fun w => word_any (bx (y 0)) (bx (y 1)) (bx (y 2)) (bx (y 3)) w)
  go_enter Try.func50, Try.ntmps50
  go_wp2_with fail
  refine (CB.out _).mono ?_
  rintro e w1 ⟨rfl, b1⟩
  clear CB
  go_wp2_with fail
  obtain ⟨w2, HW2, hr2, b2, hs2⟩ : ∃ w2, Hid (w1.alloc (.cells (r4v y) 76) = w2) ∧ w2.heap[w1.heap.size]? = some (.cells (r4v y) 76 (0, 0)) ∧ Below w1.heap.size w1 w2 ∧ w1.heap.size < w2.heap.size := ⟨_, Lib.hid rfl, heap_alloc_new _ _, (Below.refl _ _).alloc (Nat.le_refl _) _, by simp⟩
  have hBx2 : Hid (BoxAt w2 g) := Lib.hid (fun b => (b2.cell (p := ⟨g, 60 + b.toNat, none⟩) (Nat.lt_of_lt_of_le hg b1.size)).trans ((b1.cell (p := ⟨g, 60 + b.toNat, none⟩) hg).trans (hB.out b)))
  have hgq : g < w1.heap.size := Nat.lt_of_lt_of_le hg b1.size
  have B2 : Below w.heap.size w w2 := b1.trans (b2.mono b1.size)
  have hq1 : w.heap.size ≤ w1.heap.size := b1.size
  rw [HW2.out]
  clear HW2 b2 b1 hB
  generalize w1.heap.size = q at *
  go_loopw [11] (fun i wi => ∃ k : Nat, i = .int .i64 (k : Int) ∧ k ≤ 4 ∧ Hid (wi.heap[q]? = some (.cells (r4v (mI y k)) 76 (0, 0))) ∧ Hid (Below q w2 wi)) (fun i _ => 4 - (intOf i).toNat)
  case atStart => exact ⟨0, rfl, by omega, Lib.hid hr2, Lib.hid (Below.refl _ _)⟩
  case round =>
    obtain ⟨k, rfl, hk, HR, HB⟩ := hrel
    have HBX : Hid (∀ b : UInt8, wr.cell? ⟨g, 60 + b.toNat, none⟩ = some (.int .u8 ((bx b).toNat : Int))) := Lib.hid (fun b => (HB.out.cell (p := ⟨g, 60 + b.toNat, none⟩) hgq).trans (hBx2.out b))
    have HF : Hid (∀ j, wr.frozen? ⟨q, j, none⟩ = false) := Lib.hid (fun j => frozen_of_row _ q j _ _ HR.out)
    have HC : Hid (wr.cell? ⟨q, 0, none⟩ = some (.int .u8 ((mI y k 0).toNat : Int)) ∧ wr.cell? ⟨q, 1, none⟩ = some (.int .u8 ((mI y k 1).toNat : Int)) ∧ wr.cell? ⟨q, 2, none⟩ = some (.int .u8 ((mI y k 2).toNat : Int)) ∧ wr.cell? ⟨q, 3, none⟩ = some (.int .u8 ((mI y k 3).toNat : Int))) := Lib.hid ⟨cell_of_row _ _ 0 _ _ _ HR.out, cell_of_row _ _ 1 _ _ _ HR.out, cell_of_row _ _ 2 _ _ _ HR.out, cell_of_row _ _ 3 _ _ _ HR.out⟩
    rcases (show k = 0 ∨ k = 1 ∨ k = 2 ∨ k = 3 ∨ k = 4 by omega) with rfl | rfl | rfl | rfl | rfl
    · as_aux_lemma =>
      obtain ⟨c0, c1, c2, c3⟩ := HC.out
      have cb := HBX.out (y 0)
      have hyb := (y 0).toNat_lt
      have hyi : ((y 0).toNat : Int) < 256 := by omega
      have hfz := HF.out 0
      have hix := (index_b4 y).1
      rw [show ((0 : Nat) : Int) = 0 from rfl]
      go_wp2_with fail
      go_roundw
      case rel => exact ⟨0 + 1, by first | rfl | go_num, by omega, Lib.hid (heap_setCell_same _ _ 0 _ _ _ HR.out), Lib.hid (HB.out.setCell (p := ⟨q, 0, none⟩) (Nat.le_refl _) _)⟩
      case measure => simp [intOf]
    · as_aux_lemma =>
      obtain ⟨c0, c1, c2, c3⟩ := HC.out
      have cb := HBX.out (y 1)
      have hyb := (y 1).toNat_lt
      have hyi : ((y 1).toNat : Int) < 256 := by omega
      have hfz := HF.out 1
      have hix := (index_b4 y).2.1
      rw [show ((1 : Nat) : Int) = 1 from rfl]
      go_wp2_with fail
      go_roundw
      case rel => exact ⟨1 + 1, by first | rfl | go_num, by omega, Lib.hid (heap_setCell_same _ _ 1 _ _ _ HR.out), Lib.hid (HB.out.setCell (p := ⟨q, 1, none⟩) (Nat.le_refl _) _)⟩
      case measure => simp [intOf]
    · as_aux_lemma =>
      obtain ⟨c0, c1, c2, c3⟩ := HC.out
      have cb := HBX.out (y 2)
      have hyb := (y 2).toNat_lt
      have hyi : ((y 2).toNat : Int) < 256 := by omega
      have hfz := HF.out 2
      have hix := (index_b4 y).2.2.1
      rw [show ((2 : Nat) : Int) = 2 from rfl]
      go_wp2_with fail
      go_roundw
      case rel => exact ⟨2 + 1, by first | rfl | go_num, by omega, Lib.hid (heap_setCell_same _ _ 2 _ _ _ HR.out), Lib.hid (HB.out.setCell (p := ⟨q, 2, none⟩) (Nat.le_refl _) _)⟩
      case measure => simp [intOf]
    · as_aux_lemma =>
      obtain ⟨c0, c1, c2, c3⟩ := HC.out
      have cb := HBX.out (y 3)
      have hyb := (y 3).toNat_lt
      have hyi : ((y 3).toNat : Int) < 256 := by omega
      have hfz := HF.out 3
      have hix := (index_b4 y).2.2.2
      rw [show ((3 : Nat) : Int) = 3 from rfl]
      go_wp2_with fail
      go_roundw
      case rel => exact ⟨3 + 1, by first | rfl | go_num, by omega, Lib.hid (heap_setCell_same _ _ 3 _ _ _ HR.out), Lib.hid (HB.out.setCell (p := ⟨q, 3, none⟩) (Nat.le_refl _) _)⟩
      case measure => simp [intOf]
    · as_aux_lemma =>
      obtain ⟨c0, c1, c2, c3⟩ := HC.out
      have BW := B2.trans (HB.out.mono hq1)
      go_wp2_with fail

      refine (CW.out _).mono ?_
      rintro e w9 ⟨rfl, b9⟩
      go_wp2_with fail
      go_ret
      exact ⟨rfl, BW.trans (b9.mono BW.size)⟩
end Go.Proofs.Ytbbanhjcchnhpaa
