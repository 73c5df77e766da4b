/- Laws of package dev (cellaret): DevImages. -/
import Derived.Test.YtefbfpolfbdfgaaDvJ
namespace Go.Proofs.Ytefbfpolfbdfgaa
open Go.RowKit Go.Deep Go.ChangeShapes Go.WideShapes
set_option linter.unusedVariables false
set_option linter.unusedSimpArgs false
theorem of_argD (s : ByteArray) (n : Nat) (w : World) (hs : s.size = 64 * n) (h : n < 1 ∨ 512 < n) (hm : s.size ≤ 140737488351232) : Calls Try.prog 6 #[.string s] w fun e w' => e = .returned (.tuple #[.pointer none, .int .i64 2]) ∧ w = w' := by
  have e1 : ((s.size : Int)).tmod 64 = 0 := by rw [Int.tmod_eq_emod_of_nonneg (by omega)]; omega
  have e2 : ((s.size : Int)) % 64 = 0 := by omega
  have e3 : ((s.size : Int)).tdiv 64 = (n : Int) := by rw [Int.tdiv_eq_ediv_of_nonneg (by omega)]; omega
  have e4 : ((s.size : Int)) / 64 = (n : Int) := by omega
  have e5 : IntKind.i64.wrap (n : Int) = n := IntWalk.i64_in _ (by omega)
  have CM := Lib.hid (fun w => mayHave_any (n : Int) w)
  rw [show (decide (1 ≤ (n : Int)) && decide ((n : Int) ≤ 512)) = false by simp; omega] at CM
  go_enter Try.func6, Try.ntmps6
  go_wp2_with fail
  refine (CM.out _).mono ?_
  rintro e w' ⟨rfl, rfl⟩
  go_wp2_with fail
  go_ret2
  exact ⟨rfl, rfl⟩
theorem devImages_far (s : ByteArray) (i : Int) (w : World) (h : 70000 < s.size) : Calls Try.prog 3 #[.string s, .int .i64 i] w fun e w' => e = .returned (.bool true) ∧ Below w.heap.size w w' := by
  have h1 : (70000 : Int) < s.size := by omega
  have AW := Lib.hid awake10
  go_enter Try.func3, Try.ntmps3
  go_wp2_with fail
  refine (AW.out _).mono ?_
  rintro e w1 ⟨rfl, b1⟩
  go_wp2_with fail
  go_ret
  exact ⟨rfl, b1⟩
set_option maxRecDepth 100000 in
set_option maxHeartbeats 1000000 in
theorem devImages_form (s : ByteArray) (i : Int) (w : World) (h : s.size ≤ 70000) (hm : s.size % 64 ≠ 0) : Calls Try.prog 3 #[.string s, .int .i64 i] w fun e w' => e = .returned (.bool true) ∧ Below w.heap.size w w' := by
  have AW := Lib.hid awake10
  have CO := Lib.hid (fun w => of_nil s w hm)
  obtain ⟨m, hm'⟩ : ∃ m, Hid (s.size % 64 = m) := ⟨_, Lib.hid rfl⟩
  obtain ⟨n, hn'⟩ : ∃ n, Hid (s.size / 64 = n) := ⟨_, Lib.hid rfl⟩
  have h0 : ¬ (70000 : Int) < s.size := by omega
  have h1 : ((s.size : Int)).tmod 64 = (m : Int) := by rw [Int.tmod_eq_emod_of_nonneg (by omega)]; have := hm'.out; omega
  have h2 : ((s.size : Int)) % 64 = (m : Int) := by have := hm'.out; omega
  have h3 : ¬ (m : Int) = 0 := by have := hm'.out; omega
  have h4 : ((m : Int) != 0) = true := by simpa using h3
  have e3 : ((s.size : Int)).tdiv 64 = (n : Int) := by rw [Int.tdiv_eq_ediv_of_nonneg (by omega)]; have := hn'.out; omega
  have e4 : ((s.size : Int)) / 64 = (n : Int) := by have := hn'.out; omega
  have e5 : IntKind.i64.wrap (n : Int) = n := IntWalk.i64_in _ (by have := hn'.out; omega)
  clear hm
  go_enter Try.func3, Try.ntmps3
  go_wp2_with fail
  refine (CO.out _).mono ?_
  rintro e w1 ⟨rfl, rfl⟩
  go_wp2_with fail
  refine (AW.out _).mono ?_
  rintro e w1 ⟨rfl, b1⟩
  go_wp2_with fail
  go_ret
  exact ⟨rfl, b1⟩
set_option maxRecDepth 100000 in
set_option maxHeartbeats 1000000 in
theorem devImages_arg (s : ByteArray) (n : Nat) (i : Int) (w : World) (h : s.size ≤ 70000) (hs : s.size = 64 * n) (hn : n < 1 ∨ 512 < n) : Calls Try.prog 3 #[.string s, .int .i64 i] w fun e w' => e = .returned (.bool true) ∧ Below w.heap.size w w' := by
  have AW := Lib.hid awake10
  have CO := Lib.hid (fun w => of_argD s n w hs hn (by omega))
  have h0 : ¬ (70000 : Int) < s.size := by omega
  have e1 : ((s.size : Int)).tmod 64 = 0 := by rw [Int.tmod_eq_emod_of_nonneg (by omega)]; omega
  have e2 : ((s.size : Int)) % 64 = 0 := by omega
  have e3 : ((s.size : Int)).tdiv 64 = (n : Int) := by rw [Int.tdiv_eq_ediv_of_nonneg (by omega)]; omega
  have e4 : ((s.size : Int)) / 64 = (n : Int) := by omega
  have e5 : IntKind.i64.wrap (n : Int) = n := IntWalk.i64_in _ (by omega)
  have HS := Lib.hid hs
  clear hs
  rcases hn with hn | hn
  · have g1 : (n : Int) < 1 := by omega
    go_enter Try.func3, Try.ntmps3
    go_wp2_with fail
    refine (CO.out _).mono ?_
    rintro e w1 ⟨rfl, rfl⟩
    go_wp2_with fail
    refine (AW.out _).mono ?_
    rintro e w1 ⟨rfl, b1⟩
    go_wp2_with fail
    go_ret
    exact ⟨rfl, b1⟩
  · have g1 : ¬ (n : Int) < 1 := by omega
    have g2 : (512 : Int) < n := by omega
    go_enter Try.func3, Try.ntmps3
    go_wp2_with fail
    refine (CO.out _).mono ?_
    rintro e w1 ⟨rfl, rfl⟩
    go_wp2_with fail
    refine (AW.out _).mono ?_
    rintro e w1 ⟨rfl, b1⟩
    go_wp2_with fail
    go_ret
    exact ⟨rfl, b1⟩
set_option maxRecDepth 100000 in
set_option maxHeartbeats 1000000 in
theorem devImages_out (s : ByteArray) (n : Nat) (i : Int) (w : World) (hs : s.size = 64 * n) (h1 : 1 ≤ n) (h512 : n ≤ 512) (hi : i < 0 ∨ (n : Int) ≤ i) : Calls Try.prog 3 #[.string s, .int .i64 i] w fun e w' => e = .returned (.bool true) ∧ Below w.heap.size w w' := by
  have AW := Lib.hid awake10
  have CO := Lib.hid (fun w => of_any s n w hs h1 h512)
  have CR := Lib.hid (fun g rb bs w hD => read_outD g rb n bs i w hD hi)
  have h0 : ¬ (70000 : Int) < s.size := by omega
  have e1 : ((s.size : Int)).tmod 64 = 0 := by rw [Int.tmod_eq_emod_of_nonneg (by omega)]; omega
  have e2 : ((s.size : Int)) % 64 = 0 := by omega
  have e3 : ((s.size : Int)).tdiv 64 = (n : Int) := by rw [Int.tdiv_eq_ediv_of_nonneg (by omega)]; omega
  have e4 : ((s.size : Int)) / 64 = (n : Int) := by omega
  have e5 : IntKind.i64.wrap (n : Int) = n := IntWalk.i64_in _ (by omega)
  have g1 : ¬ (n : Int) < 1 := by omega
  have g2 : ¬ (512 : Int) < n := by omega
  have hE : (ByteArray.size ⟨#[]⟩) = 0 := rfl
  clear hs h1 h512
  rcases hi with hi | hi
  · go_enter Try.func3, Try.ntmps3
    go_wp2_with fail
    refine (CO.out _).mono ?_
    rintro e w1 ⟨g, rb, rfl, hD, b1, hr⟩
    go_wp2_with fail
    refine (CR.out _ _ _ _ hD).mono ?_
    rintro e w2 ⟨rfl, rfl⟩
    go_wp2_with fail
    refine (AW.out _).mono ?_
    rintro e w2 ⟨rfl, b2⟩
    go_wp2_with fail
    go_ret
    exact ⟨rfl, b1.trans (b2.mono b1.size)⟩
  · have hi0 : ¬ i < 0 := by omega
    go_enter Try.func3, Try.ntmps3
    go_wp2_with fail
    refine (CO.out _).mono ?_
    rintro e w1 ⟨g, rb, rfl, hD, b1, hr⟩
    go_wp2_with fail
    refine (CR.out _ _ _ _ hD).mono ?_
    rintro e w2 ⟨rfl, rfl⟩
    go_wp2_with fail
    refine (AW.out _).mono ?_
    rintro e w2 ⟨rfl, b2⟩
    go_wp2_with fail
    go_ret
    exact ⟨rfl, b1.trans (b2.mono b1.size)⟩
/-- The blocks of an image, one behind the other, are the image. -/
theorem cat_ofB (s : ByteArray) (n : Nat) (hs : s.size = 64 * n) : ∀ k, k ≤ n → catB (ofB s n) k = s.data.toList.take (64 * k)
  | 0, _ => by simp [catB]
  | k + 1, h => by
    have hx : (ofB s n k).now.data.toList = (s.data.toList.take ((k + 1) * 64)).drop (k * 64) := by
      unfold ofB
      rw [if_pos (by omega)]
      show ((s.extract (k * 64) ((k + 1) * 64)).data).toList = _
      rw [ByteArray.data_extract]
      simp
      try rw [List.extract_eq_drop_take]
      try rw [List.drop_take]
    show catB (ofB s n) k ++ _ = _
    rw [cat_ofB s n hs k (by omega), hx, show (k + 1) * 64 = 64 * k + 64 by omega, show k * 64 = 64 * k by omega, show 64 * (k + 1) = 64 * k + 64 by omega]
    rw [List.drop_take, show 64 * k + 64 - 64 * k = 64 by omega, List.take_add]
theorem ofB_un (s : ByteArray) (n : Nat) : ∀ k, uL (ofB s n) k = []
  | 0 => rfl
  | k + 1 => by
    have : (ofB s n k).wr = false := by unfold ofB; split <;> rfl
    unfold uL
    rw [this, if_neg (by decide)]
    exact ofB_un s n k
theorem ofB_le (s : ByteArray) (n : Nat) (i : Nat) : (ofB s n i).now.size ≤ 64 := by
  unfold ofB
  split
  · show (s.extract _ _).size ≤ _
    rw [ByteArray.size_extract]; omega
  · exact Nat.zero_le _
set_option maxRecDepth 100000 in
set_option maxHeartbeats 2000000 in
theorem devImages_in (s : ByteArray) (n i : Nat) (w : World) (hs : s.size = 64 * n) (h1 : 1 ≤ n) (h512 : n ≤ 512) (hi : i < n) : Calls Try.prog 3 #[.string s, .int .i64 (i : Int)] w fun e w' => e = .returned (.bool true) ∧ Below w.heap.size w w' := by
  have AW := Lib.hid awake10
  have CO := Lib.hid (fun w => of_any s n w hs h1 h512)
  have CR := Lib.hid (fun g rb w hD => read_okD g rb n i (ofB s n) w hD hi)
  have CI := Lib.hid (fun g rb w hD => image_okD g rb n (ofB s n) w hD h512 (ofB_le s n))
  have hcat : (⟨(catB (ofB s n) n).toArray⟩ : ByteArray) = s := by
    rw [cat_ofB s n hs n (Nat.le_refl _), ← hs, List.take_of_length_le (show s.data.toList.length ≤ s.size from Nat.le_refl _)]
  rw [hcat] at CI
  have CU := Lib.hid (fun g rb w hD => unsafe_okD g rb n (ofB s n) w hD h512)
  rw [ofB_un] at CU
  have hnow : (ofB s n i).now = s.extract (i * 64) ((i + 1) * 64) := by unfold ofB; rw [if_pos hi]
  rw [hnow] at CR
  have h0 : ¬ (70000 : Int) < s.size := by omega
  have e1 : ((s.size : Int)).tmod 64 = 0 := by rw [Int.tmod_eq_emod_of_nonneg (by omega)]; omega
  have e2 : ((s.size : Int)) % 64 = 0 := by omega
  have e3 : ((s.size : Int)).tdiv 64 = (n : Int) := by rw [Int.tdiv_eq_ediv_of_nonneg (by omega)]; omega
  have e4 : ((s.size : Int)) / 64 = (n : Int) := by omega
  have e5 : IntKind.i64.wrap (n : Int) = n := IntWalk.i64_in _ (by omega)
  have g1 : ¬ (n : Int) < 1 := by omega
  have g2 : ¬ (512 : Int) < n := by omega
  have g3 : ¬ (i : Int) < 0 := by omega
  have g4 : ¬ (n : Int) ≤ (i : Int) := by omega
  have g5 : (i : Int) < (n : Int) := by omega
  obtain ⟨lo, hlo⟩ : ∃ lo, Hid (i * 64 = lo) := ⟨_, Lib.hid rfl⟩
  obtain ⟨hh, hhi⟩ : ∃ hi, Hid ((i + 1) * 64 = hi) := ⟨_, Lib.hid rfl⟩
  rw [hlo.out, hhi.out] at CR
  have y1 : IntKind.i64.wrap (64 * (i : Int)) = (lo : Int) := by rw [IntWalk.i64_in _ (by omega)]; have := hlo.out; omega
  have y2 : IntKind.i64.wrap ((lo : Int) + 64) = (hh : Int) := by rw [IntWalk.i64_in _ (by have := hlo.out; omega)]; have := hlo.out; have := hhi.out; omega
  have x4 : (lo : Int) ≤ (hh : Int) := by have := hlo.out; have := hhi.out; omega
  have x6 : (hh : Int) ≤ (s.size : Int) := by have := hhi.out; omega
  obtain ⟨b, hb⟩ : ∃ b, Hid (s.extract lo hh = b) := ⟨_, Lib.hid rfl⟩
  rw [hb.out] at CR
  have hb' := hb.out
  clear hs h1 h512 hi hnow hcat
  go_enter Try.func3, Try.ntmps3
  go_wp2_with fail
  refine (CO.out _).mono ?_
  rintro e w1 ⟨g, rb, rfl, hD, b1, hr⟩
  have HD1 := Lib.hid hD
  have HB1 := Lib.hid b1
  clear hD b1 hr
  go_wp2_with fail
  refine (CR.out _ _ _ HD1.out).mono ?_
  rintro e w2 ⟨rfl, rfl⟩
  go_wp2_with fail
  refine (AW.out _).mono ?_
  rintro e w2 ⟨rfl, b2⟩
  have HD2 := Lib.hid (HD1.out.below b2)
  have HB2 := Lib.hid (HB1.out.trans (b2.mono HB1.out.size))
  clear b2
  go_wp2_with fail
  refine (CI.out _ _ _ HD2.out).mono ?_
  rintro e w3 ⟨rfl, b3⟩
  have HD3 := Lib.hid (HD2.out.below b3)
  have HB3 := Lib.hid (HB2.out.trans (b3.mono HB2.out.size))
  clear b3
  go_wp2_with fail
  refine (CU.out _ _ _ HD3.out).mono ?_
  rintro e w4 ⟨v, base, rfl, hv, b4⟩
  obtain ⟨a, c, rfl⟩ := own_slD hv
  have HB4 := Lib.hid (HB3.out.trans (b4.mono HB3.out.size))
  clear b4 hv
  go_wp2_with fail
  go_ret
  exact ⟨by first | rfl | simp, HB4.out⟩
theorem devImages_walk (s : ByteArray) (i : Int) (w : World) (_hs : s.size ≤ 140737488351232) (_hi : (Lit.int .i64 i).wf = true) : Calls Try.prog 3 #[.string s, .int .i64 i] w fun e w' => e = .returned (.bool true) ∧ Below w.heap.size w w' := by
  by_cases h : 70000 < s.size
  · exact devImages_far s i w h
  · by_cases hm : s.size % 64 = 0
    · by_cases hn : s.size / 64 < 1 ∨ 512 < s.size / 64
      · exact devImages_arg s (s.size / 64) i w (by omega) (by omega) hn
      · by_cases hi : i < 0 ∨ ((s.size / 64 : Nat) : Int) ≤ i
        · exact devImages_out s (s.size / 64) i w (by omega) (by omega) (by omega) hi
        · obtain ⟨k, rfl⟩ : ∃ k : Nat, i = (k : Int) := ⟨i.toNat, by omega⟩
          exact devImages_in s (s.size / 64) k w (by omega) (by omega) (by omega) (by omega)
    · exact devImages_form s i w (by omega) hm
end Go.Proofs.Ytefbfpolfbdfgaa
