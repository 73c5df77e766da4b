/- The law NodePaths: leaves that there are not (made by gennp.py). -/
import Derived.Test.YtaopmiocompibaaDoorNoE
namespace Go.Proofs.YtaopmiocompibaaDoor
open Go.RowKit Go.Deep
set_option linter.unusedVariables false
set_option linter.unusedSimpArgs false
attribute [local irreducible] nd pathL sdv
set_option maxRecDepth 100000 in
set_option maxHeartbeats 4000000 in
theorem npL1_c1 (leaf : Int) (n side : Int) (w : World) (hG : Gl w) (h : n < 0) (hl : leaf < 0) :
    Calls Tryd.prog 3 #[.int .i64 leaf, .int .i64 n, .int .i64 side] w fun e w' => e = .returned (.bool true) ∧ Below w.heap.size w w' := by
  have HB := Lib.hid (fun w => below_no n side w (Or.inl h))
  have h0 : ¬ 0 ≤ n := by omega
  have hn := Or.inl (b := 63 < leaf) hl
  have HP := Lib.hid (fun w => path_no leaf w hn)
  have HS := Lib.hid (fun w => side_out leaf n w hn)
  clear hn
  go_enter Tryd.func3, Tryd.ntmps3
  go_wp2_with fail
  refine (HP.out _).mono ?_
  rintro e w' ⟨rfl, rfl⟩
  go_wp2_with fail
  refine (HS.out _).mono ?_
  rintro e w' ⟨rfl, rfl⟩
  go_wp2_with fail
  refine (HB.out _).mono ?_
  rintro e w' ⟨rfl, rfl⟩
  go_wp2_with fail
  refine (awake17 _ hG).mono ?_
  rintro e w' ⟨rfl, B⟩
  go_wp2_with fail
  go_ret
  exact ⟨rfl, B⟩
set_option maxRecDepth 100000 in
set_option maxHeartbeats 4000000 in
theorem npL1_c2 (leaf : Int) (n side : Int) (w : World) (hG : Gl w) (h : 63 ≤ n) (hl : leaf < 0) :
    Calls Tryd.prog 3 #[.int .i64 leaf, .int .i64 n, .int .i64 side] w fun e w' => e = .returned (.bool true) ∧ Below w.heap.size w w' := by
  have HB := Lib.hid (fun w => below_no n side w (Or.inr (Or.inl h)))
  have h0 : 0 ≤ n := by omega
  have h1 : ¬ n < 63 := by omega
  have hn := Or.inl (b := 63 < leaf) hl
  have HP := Lib.hid (fun w => path_no leaf w hn)
  have HS := Lib.hid (fun w => side_out leaf n w hn)
  clear hn
  go_enter Tryd.func3, Tryd.ntmps3
  go_wp2_with fail
  refine (HP.out _).mono ?_
  rintro e w' ⟨rfl, rfl⟩
  go_wp2_with fail
  refine (HS.out _).mono ?_
  rintro e w' ⟨rfl, rfl⟩
  go_wp2_with fail
  refine (HB.out _).mono ?_
  rintro e w' ⟨rfl, rfl⟩
  go_wp2_with fail
  refine (awake17 _ hG).mono ?_
  rintro e w' ⟨rfl, B⟩
  go_wp2_with fail
  go_ret
  exact ⟨rfl, B⟩
set_option maxRecDepth 100000 in
set_option maxHeartbeats 4000000 in
theorem npL1_c3 (leaf : Int) (n side : Int) (w : World) (hG : Gl w) (h0 : 0 ≤ n) (h1 : n < 63) (h2 : side ≠ 0) (h3 : side ≠ 1) (hl : leaf < 0) :
    Calls Tryd.prog 3 #[.int .i64 leaf, .int .i64 n, .int .i64 side] w fun e w' => e = .returned (.bool true) ∧ Below w.heap.size w w' := by
  have HB := Lib.hid (fun w => below_no n side w (Or.inr (Or.inr ⟨h0, h1, h2, h3⟩)))
  have e2 : (side == 0) = false := by simpa using h2
  have e3 : (side == 1) = false := by simpa using h3
  have hn := Or.inl (b := 63 < leaf) hl
  have HP := Lib.hid (fun w => path_no leaf w hn)
  have HS := Lib.hid (fun w => side_out leaf n w hn)
  clear hn
  go_enter Tryd.func3, Tryd.ntmps3
  go_wp2_with fail
  refine (HP.out _).mono ?_
  rintro e w' ⟨rfl, rfl⟩
  go_wp2_with fail
  refine (HS.out _).mono ?_
  rintro e w' ⟨rfl, rfl⟩
  go_wp2_with fail
  refine (HB.out _).mono ?_
  rintro e w' ⟨rfl, rfl⟩
  go_wp2_with fail
  refine (awake17 _ hG).mono ?_
  rintro e w' ⟨rfl, B⟩
  go_wp2_with fail
  go_ret
  exact ⟨rfl, B⟩
set_option maxRecDepth 100000 in
set_option maxHeartbeats 4000000 in
theorem npL1_c4 (leaf : Int) (n : Nat) (k : Int) (w : World) (hG : Gl w) (h1 : (n : Int) < 63) (h0 : 0 ≤ (n : Int)) (h2 : 2 * (n : Int) + 1 < 63) (HK : Hid (k = 2 * (n : Int) + 1)) (hl : leaf < 0) :
    Calls Tryd.prog 3 #[.int .i64 leaf, .int .i64 (n : Int), .int .i64 0] w fun e w' => e = .returned (.bool true) ∧ Below w.heap.size w w' := by
  have hkb : (k != 2 * (n : Int) + 1) = false := by rw [HK.out]; simp
  have HB := Lib.hid (fun w => below_node0 n w h1 h0 h2 k HK)
  clear HK
  have hn := Or.inl (b := 63 < leaf) hl
  have HP := Lib.hid (fun w => path_no leaf w hn)
  have HS := Lib.hid (fun w => side_out leaf (n : Int) w hn)
  clear hn
  go_enter Tryd.func3, Tryd.ntmps3
  go_wp2_with fail
  refine (HP.out _).mono ?_
  rintro e w' ⟨rfl, rfl⟩
  go_wp2_with fail
  refine (HS.out _).mono ?_
  rintro e w' ⟨rfl, rfl⟩
  go_wp2_with fail
  refine (HB.out _).mono ?_
  rintro e w' ⟨rfl, rfl⟩
  go_wp2_with fail
  refine (awake17 _ hG).mono ?_
  rintro e w' ⟨rfl, B⟩
  go_wp2_with fail
  go_ret
  exact ⟨rfl, B⟩
set_option maxRecDepth 100000 in
set_option maxHeartbeats 4000000 in
theorem npL1_c5 (leaf : Int) (n : Nat) (k : Int) (w : World) (hG : Gl w) (h1 : (n : Int) < 63) (h0 : 0 ≤ (n : Int)) (h2 : ¬ 2 * (n : Int) + 1 < 63) (HK : Hid (k = 2 * (n : Int) + 1 - 63)) (hl : leaf < 0) :
    Calls Tryd.prog 3 #[.int .i64 leaf, .int .i64 (n : Int), .int .i64 0] w fun e w' => e = .returned (.bool true) ∧ Below w.heap.size w w' := by
  have h3 : 63 ≤ 2 * (n : Int) + 1 := by omega
  have h3b : 62 ≤ 2 * (n : Int) := by omega
  have h3d : decide (63 ≤ 2 * (n : Int) + 1) = true := decide_eq_true h3
  have h3e : decide (2 * (n : Int) + 1 < 63) = false := decide_eq_false h2
  have hkb : (k != 2 * (n : Int) + 1 - 63) = false := by rw [HK.out]; simp
  have hkb2 : (k != 2 * (n : Int) - 62) = false := by rw [HK.out, show 2 * (n : Int) + 1 - 63 = 2 * (n : Int) - 62 from by omega]; simp
  have HB := Lib.hid (fun w => below_leaf0 n w h1 h0 h2 k HK)
  clear HK
  have hn := Or.inl (b := 63 < leaf) hl
  have HP := Lib.hid (fun w => path_no leaf w hn)
  have HS := Lib.hid (fun w => side_out leaf (n : Int) w hn)
  clear hn
  go_enter Tryd.func3, Tryd.ntmps3
  go_wp2_with fail
  refine (HP.out _).mono ?_
  rintro e w' ⟨rfl, rfl⟩
  go_wp2_with fail
  refine (HS.out _).mono ?_
  rintro e w' ⟨rfl, rfl⟩
  go_wp2_with fail
  refine (HB.out _).mono ?_
  rintro e w' ⟨rfl, rfl⟩
  go_wp2_with fail
  refine (awake17 _ hG).mono ?_
  rintro e w' ⟨rfl, B⟩
  go_wp2_with fail
  go_ret
  exact ⟨rfl, B⟩
set_option maxRecDepth 100000 in
set_option maxHeartbeats 4000000 in
theorem npL1_c6 (leaf : Int) (n : Nat) (k : Int) (w : World) (hG : Gl w) (h1 : (n : Int) < 63) (h0 : 0 ≤ (n : Int)) (h2 : 2 * (n : Int) + 1 + 1 < 63) (HK : Hid (k = 2 * (n : Int) + 1 + 1)) (hl : leaf < 0) :
    Calls Tryd.prog 3 #[.int .i64 leaf, .int .i64 (n : Int), .int .i64 1] w fun e w' => e = .returned (.bool true) ∧ Below w.heap.size w w' := by
  have hkb : (k != 2 * (n : Int) + 1 + 1) = false := by rw [HK.out]; simp
  have hkb2 : (k != 2 * (n : Int) + 2) = false := by rw [HK.out, show 2 * (n : Int) + 1 + 1 = 2 * (n : Int) + 2 from by omega]; simp
  have HB := Lib.hid (fun w => below_node1 n w h1 h0 h2 k HK)
  clear HK
  have hn := Or.inl (b := 63 < leaf) hl
  have HP := Lib.hid (fun w => path_no leaf w hn)
  have HS := Lib.hid (fun w => side_out leaf (n : Int) w hn)
  clear hn
  go_enter Tryd.func3, Tryd.ntmps3
  go_wp2_with fail
  refine (HP.out _).mono ?_
  rintro e w' ⟨rfl, rfl⟩
  go_wp2_with fail
  refine (HS.out _).mono ?_
  rintro e w' ⟨rfl, rfl⟩
  go_wp2_with fail
  refine (HB.out _).mono ?_
  rintro e w' ⟨rfl, rfl⟩
  go_wp2_with fail
  refine (awake17 _ hG).mono ?_
  rintro e w' ⟨rfl, B⟩
  go_wp2_with fail
  go_ret
  exact ⟨rfl, B⟩
set_option maxRecDepth 100000 in
set_option maxHeartbeats 4000000 in
theorem npL1_c7 (leaf : Int) (n : Nat) (k : Int) (w : World) (hG : Gl w) (h1 : (n : Int) < 63) (h0 : 0 ≤ (n : Int)) (h2 : ¬ 2 * (n : Int) + 1 + 1 < 63) (HK : Hid (k = 2 * (n : Int) + 1 + 1 - 63)) (hl : leaf < 0) :
    Calls Tryd.prog 3 #[.int .i64 leaf, .int .i64 (n : Int), .int .i64 1] w fun e w' => e = .returned (.bool true) ∧ Below w.heap.size w w' := by
  have h3 : 63 ≤ 2 * (n : Int) + 1 + 1 := by omega
  have h3b : 62 ≤ 2 * (n : Int) + 1 := by omega
  have h3c : 61 ≤ 2 * (n : Int) := by omega
  have h3d : decide (63 ≤ 2 * (n : Int) + 1 + 1) = true := decide_eq_true h3
  have h3e : decide (2 * (n : Int) + 1 + 1 < 63) = false := decide_eq_false h2
  have hkb : (k != 2 * (n : Int) + 1 + 1 - 63) = false := by rw [HK.out]; simp
  have hkb2 : (k != 2 * (n : Int) - 61) = false := by rw [HK.out, show 2 * (n : Int) + 1 + 1 - 63 = 2 * (n : Int) - 61 from by omega]; simp
  have HB := Lib.hid (fun w => below_leaf1 n w h1 h0 h2 k HK)
  clear HK
  have hn := Or.inl (b := 63 < leaf) hl
  have HP := Lib.hid (fun w => path_no leaf w hn)
  have HS := Lib.hid (fun w => side_out leaf (n : Int) w hn)
  clear hn
  go_enter Tryd.func3, Tryd.ntmps3
  go_wp2_with fail
  refine (HP.out _).mono ?_
  rintro e w' ⟨rfl, rfl⟩
  go_wp2_with fail
  refine (HS.out _).mono ?_
  rintro e w' ⟨rfl, rfl⟩
  go_wp2_with fail
  refine (HB.out _).mono ?_
  rintro e w' ⟨rfl, rfl⟩
  go_wp2_with fail
  refine (awake17 _ hG).mono ?_
  rintro e w' ⟨rfl, B⟩
  go_wp2_with fail
  go_ret
  exact ⟨rfl, B⟩
set_option maxRecDepth 100000 in
set_option maxHeartbeats 4000000 in
theorem npL2_c1 (leaf : Int) (n side : Int) (w : World) (hG : Gl w) (h : n < 0) (hl : 63 < leaf) :
    Calls Tryd.prog 3 #[.int .i64 leaf, .int .i64 n, .int .i64 side] w fun e w' => e = .returned (.bool true) ∧ Below w.heap.size w w' := by
  have HB := Lib.hid (fun w => below_no n side w (Or.inl h))
  have h0 : ¬ 0 ≤ n := by omega
  have hn := Or.inr (a := leaf < 0) hl
  have hl0 : ¬ leaf < 0 := by omega
  have HP := Lib.hid (fun w => path_no leaf w hn)
  have HS := Lib.hid (fun w => side_out leaf n w hn)
  clear hn
  go_enter Tryd.func3, Tryd.ntmps3
  go_wp2_with fail
  refine (HP.out _).mono ?_
  rintro e w' ⟨rfl, rfl⟩
  go_wp2_with fail
  refine (HS.out _).mono ?_
  rintro e w' ⟨rfl, rfl⟩
  go_wp2_with fail
  refine (HB.out _).mono ?_
  rintro e w' ⟨rfl, rfl⟩
  go_wp2_with fail
  refine (awake17 _ hG).mono ?_
  rintro e w' ⟨rfl, B⟩
  go_wp2_with fail
  go_ret
  exact ⟨rfl, B⟩
set_option maxRecDepth 100000 in
set_option maxHeartbeats 4000000 in
theorem npL2_c2 (leaf : Int) (n side : Int) (w : World) (hG : Gl w) (h : 63 ≤ n) (hl : 63 < leaf) :
    Calls Tryd.prog 3 #[.int .i64 leaf, .int .i64 n, .int .i64 side] w fun e w' => e = .returned (.bool true) ∧ Below w.heap.size w w' := by
  have HB := Lib.hid (fun w => below_no n side w (Or.inr (Or.inl h)))
  have h0 : 0 ≤ n := by omega
  have h1 : ¬ n < 63 := by omega
  have hn := Or.inr (a := leaf < 0) hl
  have hl0 : ¬ leaf < 0 := by omega
  have HP := Lib.hid (fun w => path_no leaf w hn)
  have HS := Lib.hid (fun w => side_out leaf n w hn)
  clear hn
  go_enter Tryd.func3, Tryd.ntmps3
  go_wp2_with fail
  refine (HP.out _).mono ?_
  rintro e w' ⟨rfl, rfl⟩
  go_wp2_with fail
  refine (HS.out _).mono ?_
  rintro e w' ⟨rfl, rfl⟩
  go_wp2_with fail
  refine (HB.out _).mono ?_
  rintro e w' ⟨rfl, rfl⟩
  go_wp2_with fail
  refine (awake17 _ hG).mono ?_
  rintro e w' ⟨rfl, B⟩
  go_wp2_with fail
  go_ret
  exact ⟨rfl, B⟩
set_option maxRecDepth 100000 in
set_option maxHeartbeats 4000000 in
theorem npL2_c3 (leaf : Int) (n side : Int) (w : World) (hG : Gl w) (h0 : 0 ≤ n) (h1 : n < 63) (h2 : side ≠ 0) (h3 : side ≠ 1) (hl : 63 < leaf) :
    Calls Tryd.prog 3 #[.int .i64 leaf, .int .i64 n, .int .i64 side] w fun e w' => e = .returned (.bool true) ∧ Below w.heap.size w w' := by
  have HB := Lib.hid (fun w => below_no n side w (Or.inr (Or.inr ⟨h0, h1, h2, h3⟩)))
  have e2 : (side == 0) = false := by simpa using h2
  have e3 : (side == 1) = false := by simpa using h3
  have hn := Or.inr (a := leaf < 0) hl
  have hl0 : ¬ leaf < 0 := by omega
  have HP := Lib.hid (fun w => path_no leaf w hn)
  have HS := Lib.hid (fun w => side_out leaf n w hn)
  clear hn
  go_enter Tryd.func3, Tryd.ntmps3
  go_wp2_with fail
  refine (HP.out _).mono ?_
  rintro e w' ⟨rfl, rfl⟩
  go_wp2_with fail
  refine (HS.out _).mono ?_
  rintro e w' ⟨rfl, rfl⟩
  go_wp2_with fail
  refine (HB.out _).mono ?_
  rintro e w' ⟨rfl, rfl⟩
  go_wp2_with fail
  refine (awake17 _ hG).mono ?_
  rintro e w' ⟨rfl, B⟩
  go_wp2_with fail
  go_ret
  exact ⟨rfl, B⟩
set_option maxRecDepth 100000 in
set_option maxHeartbeats 4000000 in
theorem npL2_c4 (leaf : Int) (n : Nat) (k : Int) (w : World) (hG : Gl w) (h1 : (n : Int) < 63) (h0 : 0 ≤ (n : Int)) (h2 : 2 * (n : Int) + 1 < 63) (HK : Hid (k = 2 * (n : Int) + 1)) (hl : 63 < leaf) :
    Calls Tryd.prog 3 #[.int .i64 leaf, .int .i64 (n : Int), .int .i64 0] w fun e w' => e = .returned (.bool true) ∧ Below w.heap.size w w' := by
  have hkb : (k != 2 * (n : Int) + 1) = false := by rw [HK.out]; simp
  have HB := Lib.hid (fun w => below_node0 n w h1 h0 h2 k HK)
  clear HK
  have hn := Or.inr (a := leaf < 0) hl
  have hl0 : ¬ leaf < 0 := by omega
  have HP := Lib.hid (fun w => path_no leaf w hn)
  have HS := Lib.hid (fun w => side_out leaf (n : Int) w hn)
  clear hn
  go_enter Tryd.func3, Tryd.ntmps3
  go_wp2_with fail
  refine (HP.out _).mono ?_
  rintro e w' ⟨rfl, rfl⟩
  go_wp2_with fail
  refine (HS.out _).mono ?_
  rintro e w' ⟨rfl, rfl⟩
  go_wp2_with fail
  refine (HB.out _).mono ?_
  rintro e w' ⟨rfl, rfl⟩
  go_wp2_with fail
  refine (awake17 _ hG).mono ?_
  rintro e w' ⟨rfl, B⟩
  go_wp2_with fail
  go_ret
  exact ⟨rfl, B⟩
set_option maxRecDepth 100000 in
set_option maxHeartbeats 4000000 in
theorem npL2_c5 (leaf : Int) (n : Nat) (k : Int) (w : World) (hG : Gl w) (h1 : (n : Int) < 63) (h0 : 0 ≤ (n : Int)) (h2 : ¬ 2 * (n : Int) + 1 < 63) (HK : Hid (k = 2 * (n : Int) + 1 - 63)) (hl : 63 < leaf) :
    Calls Tryd.prog 3 #[.int .i64 leaf, .int .i64 (n : Int), .int .i64 0] w fun e w' => e = .returned (.bool true) ∧ Below w.heap.size w w' := by
  have h3 : 63 ≤ 2 * (n : Int) + 1 := by omega
  have h3b : 62 ≤ 2 * (n : Int) := by omega
  have h3d : decide (63 ≤ 2 * (n : Int) + 1) = true := decide_eq_true h3
  have h3e : decide (2 * (n : Int) + 1 < 63) = false := decide_eq_false h2
  have hkb : (k != 2 * (n : Int) + 1 - 63) = false := by rw [HK.out]; simp
  have hkb2 : (k != 2 * (n : Int) - 62) = false := by rw [HK.out, show 2 * (n : Int) + 1 - 63 = 2 * (n : Int) - 62 from by omega]; simp
  have HB := Lib.hid (fun w => below_leaf0 n w h1 h0 h2 k HK)
  clear HK
  have hn := Or.inr (a := leaf < 0) hl
  have hl0 : ¬ leaf < 0 := by omega
  have HP := Lib.hid (fun w => path_no leaf w hn)
  have HS := Lib.hid (fun w => side_out leaf (n : Int) w hn)
  clear hn
  go_enter Tryd.func3, Tryd.ntmps3
  go_wp2_with fail
  refine (HP.out _).mono ?_
  rintro e w' ⟨rfl, rfl⟩
  go_wp2_with fail
  refine (HS.out _).mono ?_
  rintro e w' ⟨rfl, rfl⟩
  go_wp2_with fail
  refine (HB.out _).mono ?_
  rintro e w' ⟨rfl, rfl⟩
  go_wp2_with fail
  refine (awake17 _ hG).mono ?_
  rintro e w' ⟨rfl, B⟩
  go_wp2_with fail
  go_ret
  exact ⟨rfl, B⟩
set_option maxRecDepth 100000 in
set_option maxHeartbeats 4000000 in
theorem npL2_c6 (leaf : Int) (n : Nat) (k : Int) (w : World) (hG : Gl w) (h1 : (n : Int) < 63) (h0 : 0 ≤ (n : Int)) (h2 : 2 * (n : Int) + 1 + 1 < 63) (HK : Hid (k = 2 * (n : Int) + 1 + 1)) (hl : 63 < leaf) :
    Calls Tryd.prog 3 #[.int .i64 leaf, .int .i64 (n : Int), .int .i64 1] w fun e w' => e = .returned (.bool true) ∧ Below w.heap.size w w' := by
  have hkb : (k != 2 * (n : Int) + 1 + 1) = false := by rw [HK.out]; simp
  have hkb2 : (k != 2 * (n : Int) + 2) = false := by rw [HK.out, show 2 * (n : Int) + 1 + 1 = 2 * (n : Int) + 2 from by omega]; simp
  have HB := Lib.hid (fun w => below_node1 n w h1 h0 h2 k HK)
  clear HK
  have hn := Or.inr (a := leaf < 0) hl
  have hl0 : ¬ leaf < 0 := by omega
  have HP := Lib.hid (fun w => path_no leaf w hn)
  have HS := Lib.hid (fun w => side_out leaf (n : Int) w hn)
  clear hn
  go_enter Tryd.func3, Tryd.ntmps3
  go_wp2_with fail
  refine (HP.out _).mono ?_
  rintro e w' ⟨rfl, rfl⟩
  go_wp2_with fail
  refine (HS.out _).mono ?_
  rintro e w' ⟨rfl, rfl⟩
  go_wp2_with fail
  refine (HB.out _).mono ?_
  rintro e w' ⟨rfl, rfl⟩
  go_wp2_with fail
  refine (awake17 _ hG).mono ?_
  rintro e w' ⟨rfl, B⟩
  go_wp2_with fail
  go_ret
  exact ⟨rfl, B⟩
set_option maxRecDepth 100000 in
set_option maxHeartbeats 4000000 in
theorem npL2_c7 (leaf : Int) (n : Nat) (k : Int) (w : World) (hG : Gl w) (h1 : (n : Int) < 63) (h0 : 0 ≤ (n : Int)) (h2 : ¬ 2 * (n : Int) + 1 + 1 < 63) (HK : Hid (k = 2 * (n : Int) + 1 + 1 - 63)) (hl : 63 < leaf) :
    Calls Tryd.prog 3 #[.int .i64 leaf, .int .i64 (n : Int), .int .i64 1] w fun e w' => e = .returned (.bool true) ∧ Below w.heap.size w w' := by
  have h3 : 63 ≤ 2 * (n : Int) + 1 + 1 := by omega
  have h3b : 62 ≤ 2 * (n : Int) + 1 := by omega
  have h3c : 61 ≤ 2 * (n : Int) := by omega
  have h3d : decide (63 ≤ 2 * (n : Int) + 1 + 1) = true := decide_eq_true h3
  have h3e : decide (2 * (n : Int) + 1 + 1 < 63) = false := decide_eq_false h2
  have hkb : (k != 2 * (n : Int) + 1 + 1 - 63) = false := by rw [HK.out]; simp
  have hkb2 : (k != 2 * (n : Int) - 61) = false := by rw [HK.out, show 2 * (n : Int) + 1 + 1 - 63 = 2 * (n : Int) - 61 from by omega]; simp
  have HB := Lib.hid (fun w => below_leaf1 n w h1 h0 h2 k HK)
  clear HK
  have hn := Or.inr (a := leaf < 0) hl
  have hl0 : ¬ leaf < 0 := by omega
  have HP := Lib.hid (fun w => path_no leaf w hn)
  have HS := Lib.hid (fun w => side_out leaf (n : Int) w hn)
  clear hn
  go_enter Tryd.func3, Tryd.ntmps3
  go_wp2_with fail
  refine (HP.out _).mono ?_
  rintro e w' ⟨rfl, rfl⟩
  go_wp2_with fail
  refine (HS.out _).mono ?_
  rintro e w' ⟨rfl, rfl⟩
  go_wp2_with fail
  refine (HB.out _).mono ?_
  rintro e w' ⟨rfl, rfl⟩
  go_wp2_with fail
  refine (awake17 _ hG).mono ?_
  rintro e w' ⟨rfl, B⟩
  go_wp2_with fail
  go_ret
  exact ⟨rfl, B⟩
end Go.Proofs.YtaopmiocompibaaDoor
