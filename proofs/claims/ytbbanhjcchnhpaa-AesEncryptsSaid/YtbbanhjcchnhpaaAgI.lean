/- Laws of package aes (cellaret): AesEncrypts. -/
import Derived.Test.YtbbanhjcchnhpaaAgH
namespace Go.Proofs.Ytbbanhjcchnhpaa
open Go.RowKit Go.Deep
set_option linter.unusedVariables false
set_option linter.unusedSimpArgs false
set_option maxRecDepth 100000 in
set_option maxHeartbeats 2000000 in
theorem aesEncrypts_walk (s text : ByteArray) (w : World) (hs : s.size ≤ 140737488351232) (_ht : text.size ≤ 140737488351232) :
    Calls Try.prog 5 #[.string s, .string text] w fun e w' => e = .returned (.bool true) ∧ Below w.heap.size w w' := by
  have CK := Lib.hid (fun w => key_any s w hs)
  have CN := Lib.hid (fun w => new_any (cutB s 32) w (cutB_size s 32))
  by_cases h16 : text.size = 16
  · have ht : ((text.size : Int) == 16) = true := by rw [beq_iff_eq]; omega
    have CE := Lib.hid (fun kg w hK => enc_any kg (wI (cutB s 32).data.toList 60) text w h16 hK)
    have CR := Lib.hid (fun w => renc_any (cutB s 32) text w (cutB_size s 32) h16)
    generalize txS (encR (wI (cutB s 32).data.toList 60) (bAt text.data.toList) 14) = x at *
    generalize wI (cutB s 32).data.toList 60 = W at *
    generalize cutB s 32 = ks at *
    go_enter Try.func5, Try.ntmps5
    go_wp2_with fail
    refine (CK.out _).mono ?_
    rintro e w1 ⟨rfl, b1⟩
    go_wp2_with fail
    refine (CN.out _).mono ?_
    rintro e w2 ⟨rfl, hK, b2⟩
    have B2 := Lib.hid (below_trans b1 b2)
    have HK := Lib.hid hK
    clear b1 b2 hK
    generalize w1.heap.size = kg at *
    go_wp2_with fail
    refine (CE.out kg _ HK).mono ?_
    rintro e w3 ⟨rfl, b3⟩
    have B3 := Lib.hid (below_trans B2.out b3)
    clear B2 HK b3
    go_wp2_with fail
    refine (awake04 _).mono ?_
    rintro e w4 ⟨rfl, b4⟩
    have B4 := Lib.hid (below_trans B3.out b4)
    clear B3 b4
    go_wp2_with fail
    refine (CK.out _).mono ?_
    rintro e w5 ⟨rfl, b5⟩
    have B5 := Lib.hid (below_trans B4.out b5)
    clear B4 b5
    go_wp2_with fail
    refine (CR.out _).mono ?_
    rintro e w6 ⟨rfl, b6⟩
    have B6 := Lib.hid (below_trans B5.out b6)
    clear B5 b6
    go_wp2_with fail
    go_ret
    exact ⟨by first | rfl | simp, B6.out⟩
  · have ht : ((text.size : Int) == 16) = false := by rw [beq_eq_false_iff_ne]; omega
    have CE := Lib.hid (fun kg w => enc_len kg text w h16)
    generalize wI (cutB s 32).data.toList 60 = W at *
    generalize cutB s 32 = ks at *
    go_enter Try.func5, Try.ntmps5
    go_wp2_with fail
    refine (CK.out _).mono ?_
    rintro e w1 ⟨rfl, b1⟩
    go_wp2_with fail
    refine (CN.out _).mono ?_
    rintro e w2 ⟨rfl, hK, b2⟩
    have B2 := Lib.hid (below_trans b1 b2)
    clear b1 b2 hK
    generalize w1.heap.size = kg at *
    go_wp2_with fail
    refine (CE.out kg _).mono ?_
    rintro e w' ⟨rfl, rfl⟩
    go_wp2_with fail
    refine (awake04 _).mono ?_
    rintro e w4 ⟨rfl, b4⟩
    have B4 := Lib.hid (below_trans B2.out b4)
    go_wp2_with fail
    go_ret
    exact ⟨by first | rfl | simp, B4.out⟩
end Go.Proofs.Ytbbanhjcchnhpaa
