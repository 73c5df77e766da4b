/- Package ctr (cellaret): the law's helpers; the reference's Head; awake. -/
import Derived.Test.YtbbanhjcchnhpaaCtD
import Derived.Test.YtbbanhjcchnhpaaRefA
namespace Go.Proofs.Ytbbanhjcchnhpaa
open Go.RowKit Go.Deep
set_option linter.unusedVariables false
set_option linter.unusedSimpArgs false
theorem nN_any (n W : Int) (w : World) (hN : n ≤ 9223372036854775807) :
    Calls Try.prog 68 #[.int .i64 n, .int .i64 W] w fun e w' => e = .returned (.string ⟨(putL n W).toArray⟩) ∧ Below w.heap.size w w' := by
  have HP := Lib.hid (fun w => r01put_any n W w hN)
  go_enter Try.func68, Try.ntmps68
  go_wp2_with fail
  refine (HP.out _).mono ?_
  rintro e w1 ⟨rfl, b1⟩
  go_wp2
  go_ret
  exact ⟨rfl, b1⟩
theorem n8_any (n : Int) (w : World) (hn : okN n = true) : Calls Try.prog 68 #[.int .i64 n, .int .i64 8] w fun e w' => e = .returned (.string ⟨(beL n 8).toArray⟩) ∧ Below w.heap.size w w' := by
  obtain ⟨h0, h1⟩ := okN_true hn
  have := nN_any n 8 w (by omega)
  have h2 : putL n 8 = beL n 8 := putL_ok (W := 8) (by unfold putE; rw [if_pos (by decide), if_neg (by omega)])
  rw [h2] at this
  exact this
theorem n1_any (k : Nat) (w : World) (hk : k < 256) : Calls Try.prog 68 #[.int .i64 (k : Int), .int .i64 1] w fun e w' => e = .returned (.string ⟨#[UInt8.ofNat k]⟩) ∧ Below w.heap.size w w' := by
  have := nN_any (k : Int) 1 w (by omega)
  have h1 : putL (k : Int) 1 = [UInt8.ofNat k] := by
    have h2 : putL (k : Int) 1 = beL (k : Int) 1 := putL_ok (W := 1) (by
      have hd : (k : Int) / 256 = 0 := by omega
      unfold putE
      rw [if_pos (by decide), if_neg (by
        rintro (h | ⟨_, h⟩)
        · omega
        · exact h hd)])
    rw [h2]
    unfold beL byteU
    show [UInt8.ofNat ((k : Int) / 2 ^ (8 * 0) % 256).toNat] = _
    rw [show (2 : Int) ^ (8 * 0) = 1 from rfl]
    congr 2
    omega
  rw [h1] at this
  exact this
theorem zeros7 (w : World) : Calls Try.prog 42 #[.int .i64 7] w fun e w' => e = .returned (.string z7) ∧ Below w.heap.size w w' := zeros_any 7 w (by omega)
set_option maxRecDepth 100000 in
set_option maxHeartbeats 1000000 in
theorem rhead_raw (num : Int) (k : Nat) (w : World) (hn : okN num = true) (hk : k < 256) : Calls Try.prog 37 #[.int .i64 num, .int .i64 (k : Int)] w fun e w' => e = .returned (.string (headB num k)) ∧ Below w.heap.size w w' := by
  have C8 := Lib.hid (fun w => n8_any num w hn)
  have C1 := Lib.hid (fun w => n1_any k w hk)
  have hsz : (⟨(beL num 8).toArray⟩ : ByteArray).size = 8 := by rw [bytes_size, beL_len]
  have hz7 : z7.size = 7 := rfl
  unfold headB
  generalize (⟨(beL num 8).toArray⟩ : ByteArray) = hd at *
  have hb1 : (⟨#[UInt8.ofNat k]⟩ : ByteArray).size = 1 := rfl
  generalize (⟨#[UInt8.ofNat k]⟩ : ByteArray) = b1 at *
  have CZ := Lib.hid zeros7
  generalize z7 = z at *
  have had : ∀ V : World, (Op.stringOp .add hd b1).run Try.prog V = .ok (.string (hd ++ b1)) V := fun V => run_string_add_sum V hd b1 (by rw [hsz, hb1]; decide)
  have hs2 : (hd ++ b1).size = 9 := by rw [ByteArray.size_append, hsz, hb1]
  generalize hd ++ b1 = h2 at *
  have had2 : ∀ V : World, (Op.stringOp .add h2 z).run Try.prog V = .ok (.string (h2 ++ z)) V := fun V => run_string_add_sum V h2 z (by rw [hs2, hz7]; decide)
  generalize h2 ++ z = h3 at *
  go_enter Try.func37, Try.ntmps37
  go_wp2_with fail
  refine (C8.out _).mono ?_
  rintro e w1 ⟨rfl, q1⟩
  go_wp2_with fail
  refine (C1.out _).mono ?_
  rintro e w2 ⟨rfl, q2⟩
  go_wp2_with fail
  refine (CZ.out _).mono ?_
  rintro e w3 ⟨rfl, q3⟩
  go_wp2_with fail
  go_ret
  exact ⟨rfl, below_trans (below_trans q1 q2) q3⟩
theorem rhead1 (num : Int) (w : World) (hn : okN num = true) : Calls Try.prog 37 #[.int .i64 num, .int .i64 1] w fun e w' => e = .returned (.string (headB num 1)) ∧ Below w.heap.size w w' := rhead_raw num 1 w hn (by omega)
theorem rhead2 (num : Int) (w : World) (hn : okN num = true) : Calls Try.prog 37 #[.int .i64 num, .int .i64 2] w fun e w' => e = .returned (.string (headB num 2)) ∧ Below w.heap.size w w' := rhead_raw num 2 w hn (by omega)
theorem right_any (n : Int) (w : World) : Calls Try.prog 31 #[.int .i64 n] w fun e w' => e = .returned (.bool (okN n)) ∧ w = w' := by
  unfold okN
  by_cases h0 : 0 ≤ n
  · by_cases h1 : n ≤ 1099511627776
    · go_enter Try.func31, Try.ntmps31
      go_wp2
      go_ret
      exact ⟨by simp [h0, h1], rfl⟩
    · go_enter Try.func31, Try.ntmps31
      go_wp2
      go_ret
      exact ⟨by simp [h0, h1], rfl⟩
  · go_enter Try.func31, Try.ntmps31
    go_wp2
    go_ret
    exact ⟨by simp [h0]; omega, rfl⟩
theorem zpad_same (u : ByteArray) (n : Nat) (h : u.size = n) : (⟨(zpadL u.data.toList n).toArray⟩ : ByteArray) = u := by
  unfold zpadL
  rw [← Lib.size_eq, h, Nat.sub_self, List.replicate_zero, List.append_nil, Lib.mk_data]
set_option maxRecDepth 100000 in
theorem key5_any (s : ByteArray) (w : World) :
    Calls Try.prog 28 #[.string s] w fun e w' => ∃ kg, e = .returned (.tuple #[.string (cutB s 32), .pointer (some ⟨kg, 0, none⟩)]) ∧ KeyAt w' kg (wI (cutB s 32).data.toList 60) ∧ Below w.heap.size w w' := by
  have CN := Lib.hid (fun w => new_any (cutB s 32) w (cutB_size s 32))
  by_cases h : 32 < s.size
  · have e1 : s.extract 0 32 = cutB s 32 := by unfold cutB; rw [if_pos h]
    have h1 : (32 : Int) < s.size := by omega
    have h2 : (32 : Int) ≤ s.size := by omega
    have CF := Lib.hid (fun w => full_any (cutB s 32) 32 w (by omega) (by rw [cutB_size]; omega))
    rw [zpad_same _ 32 (cutB_size s 32)] at CF
    generalize cutB s 32 = ks at *
    go_enter Try.func28, Try.ntmps28
    go_wp2_with fail
    refine (CF.out _).mono ?_
    rintro e w1 ⟨rfl, b1⟩
    go_wp2_with fail
    refine (CN.out _).mono ?_
    rintro e w2 ⟨rfl, hK, b2⟩
    have HK := Lib.hid hK
    go_wp2_with fail
    go_ret2
    exact ⟨_, rfl, HK.out, below_trans b1 b2⟩
  · have e1 : (⟨(zpadL s.data.toList 32).toArray⟩ : ByteArray) = cutB s 32 := by unfold cutB; rw [if_neg h]
    have h1 : ¬ (32 : Int) < s.size := by omega
    have CF := Lib.hid (fun w => full_any s 32 w (by omega) (by omega))
    rw [e1] at CF
    clear e1
    generalize cutB s 32 = ks at *
    go_enter Try.func28, Try.ntmps28
    go_wp2_with fail
    refine (CF.out _).mono ?_
    rintro e w1 ⟨rfl, b1⟩
    go_wp2_with fail
    refine (CN.out _).mono ?_
    rintro e w2 ⟨rfl, hK, b2⟩
    have HK := Lib.hid hK
    go_wp2_with fail
    go_ret2
    exact ⟨_, rfl, HK.out, below_trans b1 b2⟩
set_option maxRecDepth 100000 in
theorem data_any (s : ByteArray) (w : World) :
    Calls Try.prog 41 #[.string s] w fun e w' => e = .returned (.string (cutB s 48)) ∧ Below w.heap.size w w' := by
  by_cases h : 48 < s.size
  · have e1 : s.extract 0 48 = cutB s 48 := by unfold cutB; rw [if_pos h]
    have h1 : (48 : Int) < s.size := by omega
    have h2 : (48 : Int) ≤ s.size := by omega
    go_enter Try.func41, Try.ntmps41
    go_wp2_with fail
    go_ret
    exact ⟨by first | (simp only [e1]; rfl) | (rw [← e1]; rfl), Below.refl _ _⟩
  · have e1 : (⟨(zpadL s.data.toList 48).toArray⟩ : ByteArray) = cutB s 48 := by unfold cutB; rw [if_neg h]
    have h1 : ¬ (48 : Int) < s.size := by omega
    have CF := Lib.hid (fun w => full_any s 48 w (by omega) (by omega))
    rw [e1] at CF
    clear e1
    go_enter Try.func41, Try.ntmps41
    go_wp2_with fail
    refine (CF.out _).mono ?_
    rintro e w1 ⟨rfl, b1⟩
    go_wp2_with fail
    go_ret
    exact ⟨rfl, b1⟩
/-! Sealed, and back. -/
theorem xorL_twice (a b : List UInt8) (h : a.length = b.length) : xorL (xorL a b) b = a := xorL_back a b h
theorem cry_cry (W : Nat → UInt32) (num : Int) (s : ByteArray) (hs : s.size ≤ 4096) : cryB W num (cryB W num s) = s := by
  have hz := cryB_size W num s
  unfold cryB at *
  rw [hz]
  have hl : s.data.toList.length = (streamB W num s.size).data.toList.length := by rw [← Lib.size_eq, ← Lib.size_eq, streamB_size W num s.size hs]
  show (⟨(xorL (xorL s.data.toList (streamB W num s.size).data.toList) (streamB W num s.size).data.toList).toArray⟩ : ByteArray) = s
  rw [xorL_twice _ _ hl, Lib.mk_data]
theorem unseal_sealed (kg : Nat) (W : Nat → UInt32) (num : Int) (s : ByteArray) (w : World) (hn : okN num = true) (hs : s.size = 48) (hK : Hid (KeyAt w kg W)) : Calls Try.prog 39 #[.pointer (some ⟨kg, 0, none⟩), .string (headB num 1 ++ cryB W num s)] w fun e w' => e = .returned (.tuple #[.string s, .int .i64 0]) ∧ Below w.heap.size w w' := by
  have hc : (cryB W num s).size = 48 := by rw [cryB_size, hs]
  have h := un_ok kg W (headB num 1 ++ cryB W num s) w (blk_size num 1 _ hc) (blk_ok num 1 _ hn (Or.inl rfl)) (blk_kB num 1 _ (by omega)) hK
  rw [(blk_kE num 1 (cryB W num s) hn).2, blk_body num 1 _ hc, cry_cry W num s (by omega)] at h
  exact h
theorem kind_sealed (W : Nat → UInt32) (num : Int) (s : ByteArray) (w : World) (hn : okN num = true) (hs : s.size = 48) : Calls Try.prog 38 #[.string (headB num 1 ++ cryB W num s)] w fun e w' => e = .returned (.tuple #[.int .i64 num, .int .i64 1, .int .i64 0]) ∧ w = w' := by
  have hc : (cryB W num s).size = 48 := by rw [cryB_size, hs]
  have h := kd_ok (headB num 1 ++ cryB W num s) w (blk_size num 1 _ hc) (blk_ok num 1 _ hn (Or.inl rfl))
  rw [(blk_kE num 1 (cryB W num s) hn).2, blk_kB num 1 _ (by omega)] at h
  exact h
theorem sealed_size (W : Nat → UInt32) (num : Int) (s : ByteArray) (hs : s.size = 48) : (headB num 1 ++ cryB W num s).size = 64 := blk_size num 1 _ (by rw [cryB_size, hs])
set_option maxRecDepth 100000 in
set_option maxHeartbeats 2000000 in
theorem awake05 (w : World) : Calls Try.prog 32 #[] w fun e w' => e = .returned (.bool true) ∧ Below w.heap.size w w' := by
  have CK := Lib.hid (fun w => key5_any ⟨#[97]⟩ w)
  have CD := Lib.hid (fun w => data_any ⟨#[97, 98, 99]⟩ w)
  have h48 := cutB_size ⟨#[97, 98, 99]⟩ 48
  generalize cutB ⟨#[97, 98, 99]⟩ 48 = d at *
  generalize wI (cutB ⟨#[97]⟩ 32).data.toList 60 = W at *
  generalize cutB ⟨#[97]⟩ 32 = ks at *
  have CS := Lib.hid (fun kg w hK => se_ok kg W 7 d w (by decide) h48 hK)
  have CN := Lib.hid (fun w => kind_sealed W 7 d w (by decide) h48)
  have CU := Lib.hid (fun kg w hK => unseal_sealed kg W 7 d w (by decide) h48 hK)
  have hz : ((headB 7 1 ++ cryB W 7 d).size : Int) = 64 := by rw [sealed_size W 7 d h48]; rfl
  generalize headB 7 1 ++ cryB W 7 d = q at *
  clear h48
  go_enter Try.func32, Try.ntmps32
  go_wp2_with fail
  refine (CK.out _).mono ?_
  rintro e w1 ⟨kg, rfl, hK, b1⟩
  have HK1 := Lib.hid hK
  clear hK
  go_wp2_with fail
  refine (CD.out _).mono ?_
  rintro e w2 ⟨rfl, b2⟩
  have HK2 := Lib.hid (HK1.out.below b2)
  have B2 := Lib.hid (below_trans b1 b2)
  clear b1 b2 HK1
  go_wp2_with fail
  refine (CS.out kg _ HK2).mono ?_
  rintro e w3 ⟨rfl, b3⟩
  have HK3 := Lib.hid (HK2.out.below b3)
  have B3 := Lib.hid (below_trans B2.out b3)
  clear B2 b3 HK2
  go_wp2_with fail
  refine (CN.out _).mono ?_
  rintro e w' ⟨rfl, rfl⟩
  go_wp2_with fail
  refine (CU.out kg _ HK3).mono ?_
  rintro e w4 ⟨rfl, b4⟩
  have B4 := Lib.hid (below_trans B3.out b4)
  clear B3 b4 HK3
  go_wp2_with fail
  refine (CD.out _).mono ?_
  rintro e w5 ⟨rfl, b5⟩
  have B5 := Lib.hid (below_trans B4.out b5)
  clear B4 b5
  go_wp2_with fail
  go_ret
  exact ⟨by first | rfl | simp, B5.out⟩
end Go.Proofs.Ytbbanhjcchnhpaa
