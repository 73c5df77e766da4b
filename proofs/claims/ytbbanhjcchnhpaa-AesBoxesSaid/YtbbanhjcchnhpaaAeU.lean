/- Laws of package aes (cellaret): AesBoxes. -/
import Derived.Test.YtbbanhjcchnhpaaAeT
namespace Go.Proofs.Ytbbanhjcchnhpaa
open Go.RowKit Go.Deep
set_option linter.unusedVariables false
set_option linter.unusedSimpArgs false
set_option maxRecDepth 100000 in
set_option maxHeartbeats 2000000 in
theorem aesBoxes_nat (a b : Nat) (w : World) (ha : a < 256) (hb : b < 256) :
    Calls Try.prog 3 #[.int .u8 a, .int .u8 b] w fun e w' => e = .returned (.bool true) ∧ Below w.heap.size w w' := by
  obtain ⟨t, ht⟩ : ∃ t : Bool, ((a : Int) == (b : Int)) = t := ⟨_, rfl⟩
  have hxy : (((boxN a : Nat) : Int) == ((boxN b : Nat) : Int)) = t := by
    rw [← ht]
    rw [Bool.eq_iff_iff]
    simp only [beq_iff_eq]
    constructor
    · intro h
      have h' : boxN a = boxN b := by omega
      have := congrArg unboxN h'
      rw [unbox_box a ha, unbox_box b hb] at this
      omega
    · intro h
      have h' : a = b := by omega
      rw [h']
  have C1 := Lib.hid (fun w => box_any a w ha)
  have C2 := Lib.hid (fun w => r04box_any a w ha)
  have C3 := Lib.hid (fun w => unbox_any (boxN a) w (boxN_lt a ha))
  rw [unbox_box a ha] at C3
  have C4 := Lib.hid (fun w => unbox_any a w ha)
  have C5 := Lib.hid (fun w => box_any (unboxN a) w (unboxN_lt a ha))
  rw [box_unbox a ha] at C5
  have C6 := Lib.hid (fun w => box_any b w hb)
  have hla : boxN a < 256 := boxN_lt a ha
  generalize boxN a = x at *
  generalize boxN b = y at *
  generalize unboxN a = u at *
  go_enter Try.func3, Try.ntmps3
  go_wp2_with fail
  refine (C1.out _).mono ?_
  rintro e w1 ⟨rfl, b1⟩
  go_wp2_with fail
  refine (awake04 _).mono ?_
  rintro e w2 ⟨rfl, b2⟩
  have B2 := below_trans b1 b2
  clear b1 b2
  go_wp2_with fail
  refine (C2.out _).mono ?_
  rintro e w' ⟨rfl, rfl⟩
  go_wp2_with fail
  refine (C3.out _).mono ?_
  rintro e w3 ⟨rfl, b3⟩
  have B3 := below_trans B2 b3
  clear B2 b3
  go_wp2_with fail
  refine (C4.out _).mono ?_
  rintro e w4 ⟨rfl, b4⟩
  have B4 := below_trans B3 b4
  clear B3 b4
  go_wp2_with fail
  refine (C5.out _).mono ?_
  rintro e w5 ⟨rfl, b5⟩
  have B5 := below_trans B4 b5
  clear B4 b5
  go_wp2_with fail
  refine (C6.out _).mono ?_
  rintro e w6 ⟨rfl, b6⟩
  have B6 := below_trans B5 b6
  clear B5 b6
  go_wp2_with fail
  go_ret
  exact ⟨by first | rfl | simp, B6⟩
theorem aesBoxes_walk (a b : Int) (w : World) (ha : (Lit.int .u8 a).wf = true) (hb : (Lit.int .u8 b).wf = true) :
    Calls Try.prog 3 #[.int .u8 a, .int .u8 b] w fun e w' => e = .returned (.bool true) ∧ Below w.heap.size w w' := by
  obtain ⟨a, rfl, ha'⟩ := u8_nat ha
  obtain ⟨b, rfl, hb'⟩ := u8_nat hb
  exact aesBoxes_nat a b w ha' hb'
end Go.Proofs.Ytbbanhjcchnhpaa
