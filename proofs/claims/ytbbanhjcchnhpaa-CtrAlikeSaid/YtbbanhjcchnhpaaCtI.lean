/- Laws of package ctr (cellaret): CtrSeals. -/
import Derived.Test.YtbbanhjcchnhpaaCtF
import Derived.Test.YtbbanhjcchnhpaaCtG
namespace Go.Proofs.Ytbbanhjcchnhpaa
open Go.RowKit Go.Deep
set_option linter.unusedVariables false
set_option linter.unusedSimpArgs false
/-- The reference's xor with the stream. -/
theorem rcry_any (W : Nat → UInt32) (num : Int) (s : ByteArray) (w : World) (hs : s.size ≤ 4096) : Calls Try.prog 33 #[.string s, .string (streamB W num s.size)] w fun e w' => e = .returned (.string (cryB W num s)) ∧ Below w.heap.size w w' :=
  r01xor_any s (streamB W num s.size) w (by rw [streamB_size W num s.size hs]; exact Nat.le_refl _) (by omega)
set_option maxRecDepth 100000 in
set_option maxHeartbeats 3000000 in
theorem ctrSeals_walk (key : ByteArray) (num : Int) (s : ByteArray) (w : World) (hk : key.size ≤ 140737488351232) (_h1 : (Lit.int .i64 num).wf = true) (hs : s.size ≤ 140737488351232) :
    Calls Try.prog 9 #[.string key, .int .i64 num, .string s] w fun e w' => e = .returned (.bool true) ∧ Below w.heap.size w w' := by
  have ha0 := none_add
  have CK := Lib.hid (fun w => key5_any key w)
  have CR := Lib.hid (fun w => right_any num w)
  have CST := Lib.hid (fun w hn => rst_any (cutB key 32) num 48 w (cutB_size key 32) hn (by omega))
  generalize wI (cutB key 32).data.toList 60 = W at *
  generalize cutB key 32 = ks at *
  cases hn : okN num with
  | true =>
    rw [hn] at CR
    by_cases h48 : s.size = 48
    · have ht : ((s.size : Int) == 48) = true := by rw [beq_iff_eq]; omega
      have CS := Lib.hid (fun kg w hK => se_ok kg W num s w hn h48 hK)
      have CL := Lib.hid (fun w => la_ok num s w hn h48)
      have CT := Lib.hid (fun w => CST.out w hn)
      rw [show ((48 : Nat) : Int) = 48 from rfl] at CT
      have CX := Lib.hid (fun w => rcry_any W num s w (by omega))
      rw [h48] at CX
      have CH1 := Lib.hid (fun w => rhead1 num w hn)
      have CH2 := Lib.hid (fun w => rhead2 num w hn)
      have z1 := headB_size num 1
      have z2 := headB_size num 2
      have zc := cryB_size W num s
      rw [h48] at zc
      generalize streamB W num 48 = st at *
      generalize cryB W num s = cy at *
      generalize headB num 1 = g1 at *
      generalize headB num 2 = g2 at *
      have had1 : ∀ V : World, (Op.stringOp .add g1 cy).run Try.prog V = .ok (.string (g1 ++ cy)) V := fun V => run_string_add_sum V g1 cy (by rw [z1, zc]; decide)
      have had2 : ∀ V : World, (Op.stringOp .add g2 s).run Try.prog V = .ok (.string (g2 ++ s)) V := fun V => run_string_add_sum V g2 s (by rw [z2, h48]; decide)
      generalize g1 ++ cy = x at *
      generalize g2 ++ s = y at *
      clear h48 z1 z2 zc CST
      go_enter Try.func9, Try.ntmps9
      go_wp2_with fail
      refine (CK.out _).mono ?_
      rintro e w1 ⟨kg, rfl, hK, b1⟩
      have HK1 := Lib.hid hK
      clear hK
      go_wp2_with fail
      refine (CS.out kg _ HK1).mono ?_
      rintro e w2 ⟨rfl, b2⟩
      have B2 := Lib.hid (below_trans b1 b2)
      clear b1 b2 HK1
      go_wp2_with fail
      refine (CL.out _).mono ?_
      rintro e w3 ⟨rfl, b3⟩
      have B3 := Lib.hid (below_trans B2.out b3)
      clear B2 b3
      go_wp2_with fail
      refine (CR.out _).mono ?_
      rintro e w' ⟨rfl, rfl⟩
      go_wp2_with fail
      refine (awake05 _).mono ?_
      rintro e w4 ⟨rfl, b4⟩
      have B4 := Lib.hid (below_trans B3.out b4)
      clear B3 b4
      go_wp2_with fail
      refine (CH1.out _).mono ?_
      rintro e w5 ⟨rfl, b5⟩
      have B5 := Lib.hid (below_trans B4.out b5)
      clear B4 b5
      go_wp2_with fail
      refine (CT.out _).mono ?_
      rintro e w6 ⟨rfl, b6⟩
      have B6 := Lib.hid (below_trans B5.out b6)
      clear B5 b6
      go_wp2_with fail
      refine (CX.out _).mono ?_
      rintro e w7 ⟨rfl, b7⟩
      have B7 := Lib.hid (below_trans B6.out b7)
      clear B6 b7
      go_wp2_with fail
      refine (CH2.out _).mono ?_
      rintro e w8 ⟨rfl, b8⟩
      have B8 := Lib.hid (below_trans B7.out b8)
      clear B7 b8
      go_wp2_with fail
      go_ret
      exact ⟨by first | rfl | simp, B8.out⟩
    · have ht : ((s.size : Int) == 48) = false := by rw [beq_eq_false_iff_ne]; omega
      have CS := Lib.hid (fun kg w => se_form kg num s w hn h48)
      have CL := Lib.hid (fun w => la_form num s w hn h48)
      clear CST
      go_enter Try.func9, Try.ntmps9
      go_wp2_with fail
      refine (CK.out _).mono ?_
      rintro e w1 ⟨kg, rfl, hK, b1⟩
      clear hK
      go_wp2_with fail
      refine (CS.out kg _).mono ?_
      rintro e w' ⟨rfl, rfl⟩
      go_wp2_with fail
      refine (CL.out _).mono ?_
      rintro e w' ⟨rfl, rfl⟩
      go_wp2_with fail
      refine (CR.out _).mono ?_
      rintro e w' ⟨rfl, rfl⟩
      go_wp2_with fail
      refine (awake05 _).mono ?_
      rintro e w4 ⟨rfl, b4⟩
      have B4 := Lib.hid (below_trans b1 b4)
      go_wp2_with fail
      go_ret
      exact ⟨by first | rfl | simp, B4.out⟩
  | false =>
    rw [hn] at CR
    have CS := Lib.hid (fun kg w => se_arg kg num s w hn)
    have CL := Lib.hid (fun w => la_arg num s w hn)
    clear CST
    go_enter Try.func9, Try.ntmps9
    go_wp2_with fail
    refine (CK.out _).mono ?_
    rintro e w1 ⟨kg, rfl, hK, b1⟩
    clear hK
    go_wp2_with fail
    refine (CS.out kg _).mono ?_
    rintro e w' ⟨rfl, rfl⟩
    go_wp2_with fail
    refine (CL.out _).mono ?_
    rintro e w' ⟨rfl, rfl⟩
    go_wp2_with fail
    refine (CR.out _).mono ?_
    rintro e w' ⟨rfl, rfl⟩
    go_wp2_with fail
    refine (awake05 _).mono ?_
    rintro e w4 ⟨rfl, b4⟩
    have B4 := Lib.hid (below_trans b1 b4)
    go_wp2_with fail
    go_ret
    exact ⟨by first | rfl | simp, B4.out⟩
end Go.Proofs.Ytbbanhjcchnhpaa
