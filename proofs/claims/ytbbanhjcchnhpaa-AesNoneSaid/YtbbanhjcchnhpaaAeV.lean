/- Laws of package aes (cellaret): AesNone. -/
import Derived.Test.YtbbanhjcchnhpaaAeT
namespace Go.Proofs.Ytbbanhjcchnhpaa
open Go.RowKit Go.Deep
set_option linter.unusedVariables false
set_option linter.unusedSimpArgs false
set_option maxRecDepth 100000 in
set_option maxHeartbeats 2000000 in
theorem aesNone_walk (s : ByteArray) (i : Int) (w : World) (_hs : s.size ≤ 140737488351232) (_hi : (Lit.int .i64 i).wf = true) :
    Calls Try.prog 7 #[.string s, .int .i64 i] w fun e w' => e = .returned (.bool true) ∧ Below w.heap.size w w' := by
  have hee : ((⟨#[]⟩ : ByteArray) ++ (⟨#[]⟩ : ByteArray)).toList = [] := by decide +kernel
  have CE := Lib.hid (fun w => enc_nil s w)
  have CD := Lib.hid (fun w => dec_nil s w)
  have CW := Lib.hid (fun w => keyWord_nil i w)
  have CN := Lib.hid (fun w => new_any ⟨(riseL 32 1).toArray⟩ w size_r32)
  have C32 := Lib.hid rise32
  generalize wI (⟨(riseL 32 1).toArray⟩ : ByteArray).data.toList 60 = W at CN
  generalize (⟨(riseL 32 1).toArray⟩ : ByteArray) = r32 at CN C32
  by_cases h16 : s.size = 16
  · have ht : ((s.size : Int) == 16) = true := by rw [beq_iff_eq]; omega
    have CQ := Lib.hid (fun kg w hK => dec_any kg W s w h16 hK)
    generalize txS (decS W (bAt s.data.toList)) = o at CQ
    go_enter Try.func7, Try.ntmps7
    go_wp2_with fail
    refine (CE.out _).mono ?_
    rintro e w' ⟨rfl, rfl⟩
    go_wp2_with fail
    refine (CD.out _).mono ?_
    rintro e w' ⟨rfl, rfl⟩
    go_wp2_with fail
    refine (CW.out _).mono ?_
    rintro e w' ⟨rfl, rfl⟩
    go_wp2_with fail
    refine (C32.out _).mono ?_
    rintro e w1 ⟨rfl, b1⟩
    go_wp2_with fail
    refine (CN.out _).mono ?_
    rintro e w2 ⟨rfl, hK, b2⟩
    have B2 := Lib.hid (below_trans b1 b2)
    have HK := Lib.hid hK
    clear b1 b2 hK
    generalize w1.heap.size = kg at *
    go_wp2_with fail
    refine (CQ.out kg _ HK).mono ?_
    rintro e w3 ⟨rfl, b3⟩
    have B3 := Lib.hid (below_trans B2.out b3)
    clear B2 b3 HK
    go_wp2_with fail
    refine (awake04 _).mono ?_
    rintro e w4 ⟨rfl, b4⟩
    have B4 := Lib.hid (below_trans B3.out b4)
    clear B3 b4
    go_wp2_with fail
    go_ret
    exact ⟨by first | rfl | simp, B4.out⟩
  · have ht : ((s.size : Int) == 16) = false := by rw [beq_eq_false_iff_ne]; omega
    have CQ := Lib.hid (fun kg w => dec_len kg s w h16)
    go_enter Try.func7, Try.ntmps7
    go_wp2_with fail
    refine (CE.out _).mono ?_
    rintro e w' ⟨rfl, rfl⟩
    go_wp2_with fail
    refine (CD.out _).mono ?_
    rintro e w' ⟨rfl, rfl⟩
    go_wp2_with fail
    refine (CW.out _).mono ?_
    rintro e w' ⟨rfl, rfl⟩
    go_wp2_with fail
    refine (C32.out _).mono ?_
    rintro e w1 ⟨rfl, b1⟩
    go_wp2_with fail
    refine (CN.out _).mono ?_
    rintro e w2 ⟨rfl, hK, b2⟩
    have B2 := Lib.hid (below_trans b1 b2)
    clear b1 b2 hK
    generalize w1.heap.size = kg at *
    go_wp2_with fail
    refine (CQ.out kg _).mono ?_
    rintro e w' ⟨rfl, rfl⟩
    go_wp2_with fail
    refine (awake04 _).mono ?_
    rintro e w4 ⟨rfl, b4⟩
    have B4 := Lib.hid (below_trans B2.out b4)
    clear B2 b4
    go_wp2_with fail
    go_ret
    exact ⟨by first | rfl | simp, B4.out⟩
end Go.Proofs.Ytbbanhjcchnhpaa
