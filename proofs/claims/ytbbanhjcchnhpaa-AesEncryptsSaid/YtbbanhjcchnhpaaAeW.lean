/- Laws of package aes (cellaret): key; AesBack. -/
import Derived.Test.YtbbanhjcchnhpaaAeT
import Derived.Test.YtbbanhjcchnhpaaBeE
namespace Go.Proofs.Ytbbanhjcchnhpaa
open Go.RowKit Go.Deep
set_option linter.unusedVariables false
set_option linter.unusedSimpArgs false
/-- A text cut, or made longer, to so many bytes. -/
def cutB (s : ByteArray) (n : Nat) : ByteArray := if n < s.size then s.extract 0 n else ⟨(zpadL s.data.toList n).toArray⟩
theorem cutB_size (s : ByteArray) (n : Nat) : (cutB s n).size = n := by
  unfold cutB
  split
  · rw [ByteArray.size_extract]; omega
  · rw [bytes_size]; unfold zpadL; rw [List.length_append, List.length_replicate, ← Lib.size_eq]; omega
set_option maxRecDepth 100000 in
theorem key_any (s : ByteArray) (w : World) (hs : s.size ≤ 140737488351232) :
    Calls Try.prog 22 #[.string s] w fun e w' => e = .returned (.string (cutB s 32)) ∧ Below w.heap.size w w' := by
  by_cases h : 32 < s.size
  · have e1 : s.extract 0 32 = cutB s 32 := by unfold cutB; rw [if_pos h]
    have h1 : (32 : Int) < s.size := by omega
    have h2 : (32 : Int) ≤ s.size := by omega
    go_enter Try.func22, Try.ntmps22
    go_wp2_with fail
    go_ret
    exact ⟨by first | (simp only [e1]; rfl) | (rw [← e1]; rfl), Below.refl _ _⟩
  · have e1 : (⟨(zpadL s.data.toList 32).toArray⟩ : ByteArray) = cutB s 32 := by unfold cutB; rw [if_neg h]
    have h1 : ¬ (32 : Int) < s.size := by omega
    have CF := Lib.hid (fun w => full_any s 32 w (by omega) (by omega))
    rw [e1] at CF
    clear e1
    go_enter Try.func22, Try.ntmps22
    go_wp2_with fail
    refine (CF.out _).mono ?_
    rintro e w1 ⟨rfl, b1⟩
    go_wp2_with fail
    go_ret
    exact ⟨rfl, b1⟩
set_option maxRecDepth 100000 in
set_option maxHeartbeats 3000000 in
theorem aesBack_walk (s text : ByteArray) (w : World) (hs : s.size ≤ 140737488351232) (ht : text.size ≤ 140737488351232) :
    Calls Try.prog 6 #[.string s, .string text] w fun e w' => e = .returned (.bool true) ∧ Below w.heap.size w w' := by
  have CK := Lib.hid (fun w => key_any s w hs)
  have CN := Lib.hid (fun w => new_any (cutB s 32) w (cutB_size s 32))
  generalize wI (cutB s 32).data.toList 60 = W at *
  generalize cutB s 32 = ks at *
  by_cases h : 16 < text.size
  · have h1 : (16 : Int) < text.size := by omega
    have h2 : (16 : Int) ≤ text.size := by omega
    have hle : (text.extract 0 16).size = 16 := by rw [ByteArray.size_extract]; omega
    have CF := Lib.hid (fun w => full_any (text.extract 0 16) 16 w (by omega) (by omega))
    obtain ⟨T, hT⟩ : ∃ T, Hid ((⟨(zpadL ((text.extract 0 16)).data.toList 16).toArray⟩ : ByteArray) = T) := ⟨_, Lib.hid rfl⟩
    have hTs : T.size = 16 := by rw [← hT.out, bytes_size]; unfold zpadL; rw [List.length_append, List.length_replicate, ← Lib.size_eq]; omega
    rw [hT.out] at CF
    clear hT
    have CE := Lib.hid (fun kg w hK => enc_any kg W T w hTs hK)
    have CD := Lib.hid (fun kg w hK => dec_any kg W (txS (encR W (bAt T.data.toList) 14)) w (txS_size _) hK)
    rw [dec_enc_text W T hTs] at CD
    have hx : ((txS (encR W (bAt T.data.toList) 14)).size : Int) = 16 := by rw [txS_size]; rfl
    have CD2 := Lib.hid (fun kg w hK => dec_any kg W T w hTs hK)
    have CE2 := Lib.hid (fun kg w hK => enc_any kg W (txS (decS W (bAt T.data.toList))) w (txS_size _) hK)
    rw [enc_dec_text W T hTs] at CE2
    have hz : ((txS (decS W (bAt T.data.toList))).size : Int) = 16 := by rw [txS_size]; rfl
    generalize txS (encR W (bAt T.data.toList) 14) = x at *
    generalize txS (decS W (bAt T.data.toList)) = z at *
    clear hTs
    go_enter Try.func6, Try.ntmps6
    go_wp2_with fail
    refine (CK.out _).mono ?_
    rintro e w1 ⟨rfl, b1⟩
    go_wp2_with fail
    refine (CN.out _).mono ?_
    rintro e w2 ⟨rfl, hK, b2⟩
    have B2 := Lib.hid (below_trans b1 b2)
    have HK := Lib.hid hK
    clear b1 b2 hK
    generalize w1.heap.size = kg at *
    go_wp2_with fail
    refine (CF.out _).mono ?_
    rintro e w3 ⟨rfl, b3⟩
    have B3 := Lib.hid (below_trans B2.out b3)
    have HK3 := Lib.hid (HK.out.below b3)
    clear B2 HK b3
    go_wp2_with fail
    refine (CE.out kg _ HK3).mono ?_
    rintro e w4 ⟨rfl, b4⟩
    have B4 := Lib.hid (below_trans B3.out b4)
    have HK4 := Lib.hid (HK3.out.below b4)
    clear B3 HK3 b4
    go_wp2_with fail
    refine (CD.out kg _ HK4).mono ?_
    rintro e w5 ⟨rfl, b5⟩
    have B5 := Lib.hid (below_trans B4.out b5)
    have HK5 := Lib.hid (HK4.out.below b5)
    clear B4 HK4 b5
    go_wp2_with fail
    refine (CD2.out kg _ HK5).mono ?_
    rintro e w6 ⟨rfl, b6⟩
    have B6 := Lib.hid (below_trans B5.out b6)
    have HK6 := Lib.hid (HK5.out.below b6)
    clear B5 HK5 b6
    go_wp2_with fail
    refine (CE2.out kg _ HK6).mono ?_
    rintro e w7 ⟨rfl, b7⟩
    have B7 := Lib.hid (below_trans B6.out b7)
    clear B6 HK6 b7
    go_wp2_with fail
    refine (awake04 _).mono ?_
    rintro e w8 ⟨rfl, b8⟩
    have B8 := Lib.hid (below_trans B7.out b8)
    clear B7 b8
    go_wp2_with fail
    go_ret
    exact ⟨by first | rfl | simp, B8.out⟩
  · have h1 : ¬ (16 : Int) < text.size := by omega
    have CF := Lib.hid (fun w => full_any text 16 w (by omega) (by omega))
    obtain ⟨T, hT⟩ : ∃ T, Hid ((⟨(zpadL (text).data.toList 16).toArray⟩ : ByteArray) = T) := ⟨_, Lib.hid rfl⟩
    have hTs : T.size = 16 := by rw [← hT.out, bytes_size]; unfold zpadL; rw [List.length_append, List.length_replicate, ← Lib.size_eq]; omega
    rw [hT.out] at CF
    clear hT
    have CE := Lib.hid (fun kg w hK => enc_any kg W T w hTs hK)
    have CD := Lib.hid (fun kg w hK => dec_any kg W (txS (encR W (bAt T.data.toList) 14)) w (txS_size _) hK)
    rw [dec_enc_text W T hTs] at CD
    have hx : ((txS (encR W (bAt T.data.toList) 14)).size : Int) = 16 := by rw [txS_size]; rfl
    have CD2 := Lib.hid (fun kg w hK => dec_any kg W T w hTs hK)
    have CE2 := Lib.hid (fun kg w hK => enc_any kg W (txS (decS W (bAt T.data.toList))) w (txS_size _) hK)
    rw [enc_dec_text W T hTs] at CE2
    have hz : ((txS (decS W (bAt T.data.toList))).size : Int) = 16 := by rw [txS_size]; rfl
    generalize txS (encR W (bAt T.data.toList) 14) = x at *
    generalize txS (decS W (bAt T.data.toList)) = z at *
    clear hTs
    go_enter Try.func6, Try.ntmps6
    go_wp2_with fail
    refine (CK.out _).mono ?_
    rintro e w1 ⟨rfl, b1⟩
    go_wp2_with fail
    refine (CN.out _).mono ?_
    rintro e w2 ⟨rfl, hK, b2⟩
    have B2 := Lib.hid (below_trans b1 b2)
    have HK := Lib.hid hK
    clear b1 b2 hK
    generalize w1.heap.size = kg at *
    go_wp2_with fail
    refine (CF.out _).mono ?_
    rintro e w3 ⟨rfl, b3⟩
    have B3 := Lib.hid (below_trans B2.out b3)
    have HK3 := Lib.hid (HK.out.below b3)
    clear B2 HK b3
    go_wp2_with fail
    refine (CE.out kg _ HK3).mono ?_
    rintro e w4 ⟨rfl, b4⟩
    have B4 := Lib.hid (below_trans B3.out b4)
    have HK4 := Lib.hid (HK3.out.below b4)
    clear B3 HK3 b4
    go_wp2_with fail
    refine (CD.out kg _ HK4).mono ?_
    rintro e w5 ⟨rfl, b5⟩
    have B5 := Lib.hid (below_trans B4.out b5)
    have HK5 := Lib.hid (HK4.out.below b5)
    clear B4 HK4 b5
    go_wp2_with fail
    refine (CD2.out kg _ HK5).mono ?_
    rintro e w6 ⟨rfl, b6⟩
    have B6 := Lib.hid (below_trans B5.out b6)
    have HK6 := Lib.hid (HK5.out.below b6)
    clear B5 HK5 b6
    go_wp2_with fail
    refine (CE2.out kg _ HK6).mono ?_
    rintro e w7 ⟨rfl, b7⟩
    have B7 := Lib.hid (below_trans B6.out b7)
    clear B6 HK6 b7
    go_wp2_with fail
    refine (awake04 _).mono ?_
    rintro e w8 ⟨rfl, b8⟩
    have B8 := Lib.hid (below_trans B7.out b8)
    clear B7 b8
    go_wp2_with fail
    go_ret
    exact ⟨by first | rfl | simp, B8.out⟩
end Go.Proofs.Ytbbanhjcchnhpaa
