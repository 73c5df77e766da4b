/- Laws of package ctr (cellaret): CtrBack. -/
import Derived.Test.YtbbanhjcchnhpaaCtE
namespace Go.Proofs.Ytbbanhjcchnhpaa
open Go.RowKit Go.Deep
set_option linter.unusedVariables false
set_option linter.unusedSimpArgs false
set_option maxRecDepth 100000 in
set_option maxHeartbeats 2000000 in
theorem ctrBack_walk (key : ByteArray) (num : Int) (s : ByteArray) (w : World) (hk : key.size ≤ 140737488351232) (_h1 : (Lit.int .i64 num).wf = true) (hs : s.size ≤ 140737488351232) :
    Calls Try.prog 11 #[.string key, .int .i64 num, .string s] w fun e w' => e = .returned (.bool true) ∧ Below w.heap.size w w' := by
  have CK := Lib.hid (fun w => key5_any key w hk)
  have CD := Lib.hid (fun w => data_any s w hs)
  have CR := Lib.hid (fun w => right_any num w)
  have h48 := cutB_size s 48
  generalize cutB s 48 = d at *
  generalize wI (cutB key 32).data.toList 60 = W at *
  generalize cutB key 32 = ks at *
  cases hn : okN num with
  | true =>
    rw [hn] at CR
    have CS := Lib.hid (fun kg w hK => se_ok kg W num d w hn h48 hK)
    have CL := Lib.hid (fun w => la_ok num d w hn h48)
    have CU := Lib.hid (fun kg w hK => unseal_sealed kg W num d w hn h48 hK)
    have CP := Lib.hid (fun w => un_plain none (headB num 2 ++ d) w (blk_size num 2 d h48) (blk_ok num 2 d hn (Or.inr rfl)) (blk_kB num 2 d (by omega)))
    rw [blk_body num 2 d h48] at CP
    generalize headB num 1 ++ cryB W num d = x at *
    generalize headB num 2 ++ d = y at *
    clear h48
    go_enter Try.func11, Try.ntmps11
    go_wp2_with fail
    refine (CK.out _).mono ?_
    rintro e w1 ⟨kg, rfl, hK, b1⟩
    have HK1 := Lib.hid hK
    clear hK
    go_wp2_with fail
    refine (CD.out _).mono ?_
    rintro e w2 ⟨rfl, b2⟩
    have HK2 := Lib.hid (HK1.out.below b2)
    have B2 := Lib.hid (below_trans b1 b2)
    clear b1 b2 HK1
    go_wp2_with fail
    refine (CS.out kg _ HK2).mono ?_
    rintro e w3 ⟨rfl, b3⟩
    have HK3 := Lib.hid (HK2.out.below b3)
    have B3 := Lib.hid (below_trans B2.out b3)
    clear B2 b3 HK2
    go_wp2_with fail
    refine (CL.out _).mono ?_
    rintro e w4 ⟨rfl, b4⟩
    have HK4 := Lib.hid (HK3.out.below b4)
    have B4 := Lib.hid (below_trans B3.out b4)
    clear B3 b4 HK3
    go_wp2_with fail
    refine (CR.out _).mono ?_
    rintro e w' ⟨rfl, rfl⟩
    go_wp2_with fail
    refine (CU.out kg _ HK4).mono ?_
    rintro e w5 ⟨rfl, b5⟩
    have HK5 := Lib.hid (HK4.out.below b5)
    have B5 := Lib.hid (below_trans B4.out b5)
    clear B4 b5 HK4
    go_wp2_with fail
    refine (CP.out _).mono ?_
    rintro e w' ⟨rfl, rfl⟩
    go_wp2_with fail
    refine (CS.out kg _ HK5).mono ?_
    rintro e w6 ⟨rfl, b6⟩
    have B6 := Lib.hid (below_trans B5.out b6)
    clear B5 b6 HK5
    go_wp2_with fail
    refine (awake05 _).mono ?_
    rintro e w7 ⟨rfl, b7⟩
    have B7 := Lib.hid (below_trans B6.out b7)
    clear B6 b7
    go_wp2_with fail
    go_ret
    exact ⟨by first | rfl | simp, B7.out⟩
  | false =>
    rw [hn] at CR
    have CS := Lib.hid (fun kg w => se_arg kg num d w hn)
    have CL := Lib.hid (fun w => la_arg num d w hn)
    clear h48
    go_enter Try.func11, Try.ntmps11
    go_wp2_with fail
    refine (CK.out _).mono ?_
    rintro e w1 ⟨kg, rfl, hK, b1⟩
    clear hK
    go_wp2_with fail
    refine (CD.out _).mono ?_
    rintro e w2 ⟨rfl, b2⟩
    have B2 := Lib.hid (below_trans b1 b2)
    clear b1 b2
    go_wp2_with fail
    refine (CS.out kg _).mono ?_
    rintro e w' ⟨rfl, rfl⟩
    go_wp2_with fail
    refine (CL.out _).mono ?_
    rintro e w' ⟨rfl, rfl⟩
    go_wp2_with fail
    refine (CR.out _).mono ?_
    rintro e w' ⟨rfl, rfl⟩
    go_wp2_with fail
    refine (awake05 _).mono ?_
    rintro e w7 ⟨rfl, b7⟩
    have B7 := Lib.hid (below_trans B2.out b7)
    go_wp2_with fail
    go_ret
    exact ⟨by first | rfl | simp, B7.out⟩
end Go.Proofs.Ytbbanhjcchnhpaa
