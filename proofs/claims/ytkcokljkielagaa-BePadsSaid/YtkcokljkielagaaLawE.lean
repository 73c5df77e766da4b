/- The law BePads: walk. -/
import Derived.Test.YtkcokljkielagaaLawA
import Derived.Test.YtkcokljkielagaaBeF
import Derived.Test.YtkcokljkielagaaOpen
namespace Go.Proofs.Ytkcokljkielagaa
open Go.RowKit Go.Deep Go.ChangeShapes Go.WideShapes
set_option linter.unusedVariables false

set_option maxRecDepth 100000 in
set_option maxHeartbeats 1000000 in
theorem bePads_long (s : ByteArray) (W : Int) (ao : Option Addr) (len cap : Nat) (w : World) (h : 5000 < s.size ∨ 600 < len) :
    Calls Try.prog 4 #[.string s, .int .i64 W, .slice ao len cap] w fun e w' => e = .returned (.bool true) ∧ Below w.heap.size w w' := by
  have hor : 5000 < s.size ∨ (s.size ≤ 5000 ∧ 600 < len) := by omega
  clear h
  rcases hor with h | ⟨h, h'⟩
  all_goals
    go_enter Try.func4, Try.ntmps4
    go_wp2_with fail
    refine (awake01 _).mono ?_
    rintro e w3 ⟨rfl, hb3⟩
    go_wp2
    go_ret
    exact ⟨rfl, hb3⟩

/-- The four ways through the first half: what Pad answers. -/
inductive PadWay (s : ByteArray) (W : Int) : Prop where
  | low (h : W < 0)
  | high (h : 4096 < W)
  | big (h0 : 0 ≤ W) (h1 : W ≤ 4096) (h2 : W < s.size)
  | fits (h0 : 0 ≤ W) (h1 : W ≤ 4096) (h2 : (s.size : Int) ≤ W)
theorem padWay (s : ByteArray) (W : Int) : PadWay s W := by
  by_cases h : W < 0
  · exact .low h
  by_cases h' : 4096 < W
  · exact .high h'
  by_cases hb : W < s.size
  · exact .big (by omega) (by omega) hb
  · exact .fits (by omega) (by omega) (by omega)

theorem IntsAt.keep {w w' : World} {ao : Option Addr} {len : Nat} {zs : List Int} (h : IntsAt w ao len zs) (hb : Below w.heap.size w w') : IntsAt w' ao len zs := fun hp => by
  obtain ⟨b, off, ho, hlt, hc⟩ := h hp
  exact ⟨b, off, ho, Nat.lt_of_lt_of_le hlt hb.size, fun i hi => (hb.cell (p := ⟨b, off + i, none⟩) hlt).trans (hc i hi)⟩

set_option maxRecDepth 100000 in
set_option maxHeartbeats 1000000 in
theorem bePads_low_big (s : ByteArray) (W : Int) (ao : Option Addr) (len cap : Nat) (zs : List Int) (w : World) (hs : s.size ≤ 5000) (hl : len ≤ 600) (h : W < 0) (hr : 512 < len) :
    Calls Try.prog 4 #[.string s, .int .i64 W, .slice ao len cap] w fun e w' => e = .returned (.bool true) ∧ Below w.heap.size w w' := by
  go_enter Try.func4, Try.ntmps4
  go_wp2_with fail
  refine (pad_arg s W w (by omega)).mono ?_
  rintro e w' ⟨rfl, rfl⟩
  have B1 : Below w.heap.size w w := Below.refl _ _
  go_wp2_with fail
  refine (row_big W ao len cap _ hr).mono ?_
  rintro e w' ⟨rfl, rfl⟩
  go_wp2_with fail
  refine (awake01 _).mono ?_
  rintro e w3 ⟨rfl, hb3⟩
  go_wp2
  go_ret
  exact ⟨rfl, B1.trans (hb3.mono B1.size)⟩

set_option maxRecDepth 100000 in
set_option maxHeartbeats 1000000 in
theorem bePads_low_arg (s : ByteArray) (W : Int) (ao : Option Addr) (len cap : Nat) (zs : List Int) (w : World) (hs : s.size ≤ 5000) (hl : len ≤ 600) (h : W < 0) (hr : len ≤ 512) :
    Calls Try.prog 4 #[.string s, .int .i64 W, .slice ao len cap] w fun e w' => e = .returned (.bool true) ∧ Below w.heap.size w w' := by
  go_enter Try.func4, Try.ntmps4
  go_wp2_with fail
  refine (pad_arg s W w (by omega)).mono ?_
  rintro e w' ⟨rfl, rfl⟩
  have B1 : Below w.heap.size w w := Below.refl _ _
  go_wp2_with fail
  refine (row_arg W ao len cap _ hr (by omega)).mono ?_
  rintro e w' ⟨rfl, rfl⟩
  go_wp2_with fail
  refine (awake01 _).mono ?_
  rintro e w3 ⟨rfl, hb3⟩
  go_wp2
  go_ret
  exact ⟨rfl, B1.trans (hb3.mono B1.size)⟩

set_option maxRecDepth 100000 in
set_option maxHeartbeats 1000000 in
theorem bePads_high_big (s : ByteArray) (W : Int) (ao : Option Addr) (len cap : Nat) (zs : List Int) (w : World) (hs : s.size ≤ 5000) (hl : len ≤ 600) (h : 4096 < W) (hr : 512 < len) :
    Calls Try.prog 4 #[.string s, .int .i64 W, .slice ao len cap] w fun e w' => e = .returned (.bool true) ∧ Below w.heap.size w w' := by
  go_enter Try.func4, Try.ntmps4
  go_wp2_with fail
  refine (pad_arg s W w (by omega)).mono ?_
  rintro e w' ⟨rfl, rfl⟩
  have B1 : Below w.heap.size w w := Below.refl _ _
  go_wp2_with fail
  refine (row_big W ao len cap _ hr).mono ?_
  rintro e w' ⟨rfl, rfl⟩
  go_wp2_with fail
  refine (awake01 _).mono ?_
  rintro e w3 ⟨rfl, hb3⟩
  go_wp2
  go_ret
  exact ⟨rfl, B1.trans (hb3.mono B1.size)⟩

set_option maxRecDepth 100000 in
set_option maxHeartbeats 1000000 in
theorem bePads_high_arg (s : ByteArray) (W : Int) (ao : Option Addr) (len cap : Nat) (zs : List Int) (w : World) (hs : s.size ≤ 5000) (hl : len ≤ 600) (h : 4096 < W) (hr : len ≤ 512) :
    Calls Try.prog 4 #[.string s, .int .i64 W, .slice ao len cap] w fun e w' => e = .returned (.bool true) ∧ Below w.heap.size w w' := by
  go_enter Try.func4, Try.ntmps4
  go_wp2_with fail
  refine (pad_arg s W w (by omega)).mono ?_
  rintro e w' ⟨rfl, rfl⟩
  have B1 : Below w.heap.size w w := Below.refl _ _
  go_wp2_with fail
  refine (row_arg W ao len cap _ hr (by omega)).mono ?_
  rintro e w' ⟨rfl, rfl⟩
  go_wp2_with fail
  refine (awake01 _).mono ?_
  rintro e w3 ⟨rfl, hb3⟩
  go_wp2
  go_ret
  exact ⟨rfl, B1.trans (hb3.mono B1.size)⟩

set_option maxRecDepth 100000 in
set_option maxHeartbeats 1000000 in
theorem bePads_big_big (s : ByteArray) (W : Int) (ao : Option Addr) (len cap : Nat) (zs : List Int) (w : World) (hs : s.size ≤ 5000) (hl : len ≤ 600) (h0 : 0 ≤ W) (h1 : W ≤ 4096) (h2 : W < s.size) (hr : 512 < len) :
    Calls Try.prog 4 #[.string s, .int .i64 W, .slice ao len cap] w fun e w' => e = .returned (.bool true) ∧ Below w.heap.size w w' := by
  go_enter Try.func4, Try.ntmps4
  go_wp2_with fail
  refine (pad_big s W w h0 h1 h2).mono ?_
  rintro e w' ⟨rfl, rfl⟩
  have B1 : Below w.heap.size w w := Below.refl _ _
  go_wp2_with fail
  refine (row_big W ao len cap _ hr).mono ?_
  rintro e w' ⟨rfl, rfl⟩
  go_wp2_with fail
  refine (awake01 _).mono ?_
  rintro e w3 ⟨rfl, hb3⟩
  go_wp2
  go_ret
  exact ⟨rfl, B1.trans (hb3.mono B1.size)⟩

set_option maxRecDepth 100000 in
set_option maxHeartbeats 1000000 in
theorem bePads_big_zero (s : ByteArray) (W : Int) (ao : Option Addr) (len cap : Nat) (zs : List Int) (w : World) (hs : s.size ≤ 5000) (hl : len ≤ 600) (h0 : 0 ≤ W) (h1 : W ≤ 4096) (h2 : W < s.size) (hr : len ≤ 512) (hW : W < 1) :
    Calls Try.prog 4 #[.string s, .int .i64 W, .slice ao len cap] w fun e w' => e = .returned (.bool true) ∧ Below w.heap.size w w' := by
  go_enter Try.func4, Try.ntmps4
  go_wp2_with fail
  refine (pad_big s W w h0 h1 h2).mono ?_
  rintro e w' ⟨rfl, rfl⟩
  have B1 : Below w.heap.size w w := Below.refl _ _
  go_wp2_with fail
  refine (row_arg W ao len cap _ hr (by omega)).mono ?_
  rintro e w' ⟨rfl, rfl⟩
  go_wp2_with fail
  refine (awake01 _).mono ?_
  rintro e w3 ⟨rfl, hb3⟩
  go_wp2
  go_ret
  exact ⟨rfl, B1.trans (hb3.mono B1.size)⟩

set_option maxRecDepth 100000 in
set_option maxHeartbeats 1000000 in
theorem bePads_big_nine (s : ByteArray) (W : Int) (ao : Option Addr) (len cap : Nat) (zs : List Int) (w : World) (hs : s.size ≤ 5000) (hl : len ≤ 600) (h0 : 0 ≤ W) (h1 : W ≤ 4096) (h2 : W < s.size) (hr : len ≤ 512) (hW : 8 < W) :
    Calls Try.prog 4 #[.string s, .int .i64 W, .slice ao len cap] w fun e w' => e = .returned (.bool true) ∧ Below w.heap.size w w' := by
  go_enter Try.func4, Try.ntmps4
  go_wp2_with fail
  refine (pad_big s W w h0 h1 h2).mono ?_
  rintro e w' ⟨rfl, rfl⟩
  have B1 : Below w.heap.size w w := Below.refl _ _
  go_wp2_with fail
  refine (row_arg W ao len cap _ hr (by omega)).mono ?_
  rintro e w' ⟨rfl, rfl⟩
  go_wp2_with fail
  refine (awake01 _).mono ?_
  rintro e w3 ⟨rfl, hb3⟩
  go_wp2
  go_ret
  exact ⟨rfl, B1.trans (hb3.mono B1.size)⟩

set_option maxRecDepth 100000 in
set_option maxHeartbeats 2000000 in
theorem bePads_big_row (s : ByteArray) (W : Int) (ao : Option Addr) (len cap : Nat) (zs : List Int) (w : World) (hs : s.size ≤ 5000) (hl : len ≤ 600) (h0 : 0 ≤ W) (h1 : W ≤ 4096) (h2 : W < s.size) (hr : len ≤ 512) (hW1 : 1 ≤ W) (hW8 : W ≤ 8) (hA : Hid (IntsAt w ao len zs)) (hz : Hid (zs.length = len)) (hwf : Hid (∀ i, i < zs.length → zs.getD i 0 ≤ 9223372036854775807)) :
    Calls Try.prog 4 #[.string s, .int .i64 W, .slice ao len cap] w fun e w' => e = .returned (.bool true) ∧ Below w.heap.size w w' := by
  go_enter Try.func4, Try.ntmps4
  go_wp2_with fail
  refine (pad_big s W w h0 h1 h2).mono ?_
  rintro e w' ⟨rfl, rfl⟩
  have B1 : Below w.heap.size w w := Below.refl _ _
  go_wp2_with fail
  refine (row_ok W ao len cap zs _ hr hW1 hW8 (Lib.hid (hA.out.keep B1)) hz).mono ?_
  rintro e w2 ⟨rfl, b2⟩
  have B2 : Below w.heap.size w w2 := B1.trans (b2.mono B1.size)
  go_wp2_with fail
  go_loopw [11, 12] (fun a i wr => ∃ k : Nat, k ≤ len ∧ i = .int .i64 k ∧ a = .string ⟨(rowB W (zs.take k)).toArray⟩ ∧ (∀ j, j < k → putE (zs.getD j 0) W = 0) ∧ Below w.heap.size w wr)
    (fun _ i _ => len - (intOf i).toNat)
  case atStart => exact ⟨0, by omega, rfl, by simp [rowB], by intro j hj; omega, B2⟩
  case round =>
    obtain ⟨k, hk, rfl, rfl, hall, B⟩ := hrel
    have HAll := Lib.hid hall
    clear hall
    by_cases hlt : k < len
    · obtain ⟨b, off, rfl, hb, hcs⟩ := hA.out (by omega)
      have d0 := (B.cell (p := ⟨b, off + k, none⟩) hb).trans (hcs k hlt)
      clear hcs
      have hsn := Lib.hid (rowB_snoc W zs k (by rw [hz.out]; exact hlt))
      have hln : (rowB W (zs.take k)).length ≤ 1000000 := by
        have := rowB_length W (zs.take k)
        have := List.length_take_le k zs
        omega
      have hN := hwf.out k (by rw [hz.out]; exact hlt)
      have HP0 := r01put_any (zs.getD k 0) W wr hN
      generalize hNN : zs.getD k 0 = N at d0 HP0
      have HNN := Lib.hid hNN
      clear hNN hN
      have hpl := putL_length N W
      by_cases hE : putE N W = 0
      · rw [hE] at HP0
        have HP1 := Lib.hid HP0
        have HE := Lib.hid hE
        clear hE HP0
        go_wp2_with fail
        refine HP1.out.mono ?_
        rintro e w5 ⟨rfl, b5⟩
        have B5 : Below w.heap.size w w5 := B.trans (b5.mono B.size)
        go_wp2
        go_roundw
        case rel =>
          refine ⟨k + 1, by omega, by go_num, by rw [hsn.out, HNN.out, bytes_add], ?_, B5⟩
          intro j hj
          by_cases e : j = k
          · subst e; rw [HNN.out]; exact HE.out
          · exact HAll.out j (by omega)
        case measure => simp [intOf]; omega
      · have hre := rowE_at W zs k HAll.out (by rw [hz.out]; exact hlt) (by rw [HNN.out]; exact hE)
        rw [HNN.out] at hre
        have hrl : rowL W zs = [] := by unfold rowL; rw [hre, if_neg hE]
        have hE1 : (putE N W != 0) = true := by rw [bne_iff_ne]; exact hE
        have hpe : putL N W = [] := putL_no hE
        rw [hpe] at HP0
        clear hE hpe
        generalize putE N W = E at hE1 HP0 hre
        have HP1 := Lib.hid HP0
        clear HP0
        go_wp2_with fail
        refine HP1.out.mono ?_
        rintro e w5 ⟨rfl, b5⟩
        have B5 : Below w.heap.size w w5 := B.trans (b5.mono B.size)
        go_wp2_with fail
        refine (awake01 _).mono ?_
        rintro e w3 ⟨rfl, hb3⟩
        go_wp2
        go_ret
        exact ⟨rfl, B5.trans (hb3.mono B5.size)⟩
    · have hkl : Hid (k = zs.length) := Lib.hid (by rw [hz.out]; omega)
      have hre := rowE_ok W zs (fun i hi => HAll.out i (by rw [hkl.out]; exact hi))
      have hrl : rowL W zs = rowB W zs := by unfold rowL; rw [hre, if_pos rfl]
      have htk : rowB W (zs.take k) = rowB W zs := by rw [hkl.out, List.take_length]
      go_wp2_with fail
      refine (awake01 _).mono ?_
      rintro e w3 ⟨rfl, hb3⟩
      go_wp2
      go_ret
      exact ⟨rfl, B.trans (hb3.mono B.size)⟩

set_option maxRecDepth 100000 in
set_option maxHeartbeats 1000000 in
theorem bePads_fits_big (s : ByteArray) (W : Int) (ao : Option Addr) (len cap : Nat) (zs : List Int) (w : World) (hs : s.size ≤ 5000) (hl : len ≤ 600) (h0 : 0 ≤ W) (h1 : W ≤ 4096) (h2 : (s.size : Int) ≤ W) (hr : 512 < len) :
    Calls Try.prog 4 #[.string s, .int .i64 W, .slice ao len cap] w fun e w' => e = .returned (.bool true) ∧ Below w.heap.size w w' := by
  obtain ⟨V, rfl⟩ := Int.eq_ofNat_of_zero_le h0
  have HP := Lib.hid (pad_ok s V w (by omega) (by omega))
  have HF := Lib.hid (fun w => full_any s V w (by omega) (by omega))
  generalize (⟨(padL s.data.toList V).toArray⟩ : ByteArray) = t at HP HF
  go_enter Try.func4, Try.ntmps4
  go_wp2_with fail
  refine HP.out.mono ?_
  rintro e w0 ⟨rfl, B0⟩
  go_wp2_with fail
  refine (HF.out _).mono ?_
  rintro e w1 ⟨rfl, b1⟩
  have B1 : Below w.heap.size w w1 := B0.trans (b1.mono B0.size)
  go_wp2_with fail
  refine (row_big (V : Int) ao len cap _ hr).mono ?_
  rintro e w' ⟨rfl, rfl⟩
  go_wp2_with fail
  refine (awake01 _).mono ?_
  rintro e w3 ⟨rfl, hb3⟩
  go_wp2
  go_ret
  exact ⟨rfl, B1.trans (hb3.mono B1.size)⟩

set_option maxRecDepth 100000 in
set_option maxHeartbeats 1000000 in
theorem bePads_fits_zero (s : ByteArray) (W : Int) (ao : Option Addr) (len cap : Nat) (zs : List Int) (w : World) (hs : s.size ≤ 5000) (hl : len ≤ 600) (h0 : 0 ≤ W) (h1 : W ≤ 4096) (h2 : (s.size : Int) ≤ W) (hr : len ≤ 512) (hW : W < 1) :
    Calls Try.prog 4 #[.string s, .int .i64 W, .slice ao len cap] w fun e w' => e = .returned (.bool true) ∧ Below w.heap.size w w' := by
  obtain ⟨V, rfl⟩ := Int.eq_ofNat_of_zero_le h0
  have HP := Lib.hid (pad_ok s V w (by omega) (by omega))
  have HF := Lib.hid (fun w => full_any s V w (by omega) (by omega))
  generalize (⟨(padL s.data.toList V).toArray⟩ : ByteArray) = t at HP HF
  go_enter Try.func4, Try.ntmps4
  go_wp2_with fail
  refine HP.out.mono ?_
  rintro e w0 ⟨rfl, B0⟩
  go_wp2_with fail
  refine (HF.out _).mono ?_
  rintro e w1 ⟨rfl, b1⟩
  have B1 : Below w.heap.size w w1 := B0.trans (b1.mono B0.size)
  go_wp2_with fail
  refine (row_arg (V : Int) ao len cap _ hr (by omega)).mono ?_
  rintro e w' ⟨rfl, rfl⟩
  go_wp2_with fail
  refine (awake01 _).mono ?_
  rintro e w3 ⟨rfl, hb3⟩
  go_wp2
  go_ret
  exact ⟨rfl, B1.trans (hb3.mono B1.size)⟩

set_option maxRecDepth 100000 in
set_option maxHeartbeats 1000000 in
theorem bePads_fits_nine (s : ByteArray) (W : Int) (ao : Option Addr) (len cap : Nat) (zs : List Int) (w : World) (hs : s.size ≤ 5000) (hl : len ≤ 600) (h0 : 0 ≤ W) (h1 : W ≤ 4096) (h2 : (s.size : Int) ≤ W) (hr : len ≤ 512) (hW : 8 < W) :
    Calls Try.prog 4 #[.string s, .int .i64 W, .slice ao len cap] w fun e w' => e = .returned (.bool true) ∧ Below w.heap.size w w' := by
  obtain ⟨V, rfl⟩ := Int.eq_ofNat_of_zero_le h0
  have HP := Lib.hid (pad_ok s V w (by omega) (by omega))
  have HF := Lib.hid (fun w => full_any s V w (by omega) (by omega))
  generalize (⟨(padL s.data.toList V).toArray⟩ : ByteArray) = t at HP HF
  go_enter Try.func4, Try.ntmps4
  go_wp2_with fail
  refine HP.out.mono ?_
  rintro e w0 ⟨rfl, B0⟩
  go_wp2_with fail
  refine (HF.out _).mono ?_
  rintro e w1 ⟨rfl, b1⟩
  have B1 : Below w.heap.size w w1 := B0.trans (b1.mono B0.size)
  go_wp2_with fail
  refine (row_arg (V : Int) ao len cap _ hr (by omega)).mono ?_
  rintro e w' ⟨rfl, rfl⟩
  go_wp2_with fail
  refine (awake01 _).mono ?_
  rintro e w3 ⟨rfl, hb3⟩
  go_wp2
  go_ret
  exact ⟨rfl, B1.trans (hb3.mono B1.size)⟩

set_option maxRecDepth 100000 in
set_option maxHeartbeats 2000000 in
theorem bePads_fits_row (s : ByteArray) (W : Int) (ao : Option Addr) (len cap : Nat) (zs : List Int) (w : World) (hs : s.size ≤ 5000) (hl : len ≤ 600) (h0 : 0 ≤ W) (h1 : W ≤ 4096) (h2 : (s.size : Int) ≤ W) (hr : len ≤ 512) (hW1 : 1 ≤ W) (hW8 : W ≤ 8) (hA : Hid (IntsAt w ao len zs)) (hz : Hid (zs.length = len)) (hwf : Hid (∀ i, i < zs.length → zs.getD i 0 ≤ 9223372036854775807)) :
    Calls Try.prog 4 #[.string s, .int .i64 W, .slice ao len cap] w fun e w' => e = .returned (.bool true) ∧ Below w.heap.size w w' := by
  obtain ⟨V, rfl⟩ := Int.eq_ofNat_of_zero_le h0
  have HP := Lib.hid (pad_ok s V w (by omega) (by omega))
  have HF := Lib.hid (fun w => full_any s V w (by omega) (by omega))
  generalize (⟨(padL s.data.toList V).toArray⟩ : ByteArray) = t at HP HF
  go_enter Try.func4, Try.ntmps4
  go_wp2_with fail
  refine HP.out.mono ?_
  rintro e w0 ⟨rfl, B0⟩
  go_wp2_with fail
  refine (HF.out _).mono ?_
  rintro e w1 ⟨rfl, b1⟩
  have B1 : Below w.heap.size w w1 := B0.trans (b1.mono B0.size)
  go_wp2_with fail
  refine (row_ok (V : Int) ao len cap zs _ hr hW1 hW8 (Lib.hid (hA.out.keep B1)) hz).mono ?_
  rintro e w2 ⟨rfl, b2⟩
  have B2 : Below w.heap.size w w2 := B1.trans (b2.mono B1.size)
  go_wp2_with fail
  go_loopw [11, 12] (fun a i wr => ∃ k : Nat, k ≤ len ∧ i = .int .i64 k ∧ a = .string ⟨(rowB (V : Int) (zs.take k)).toArray⟩ ∧ (∀ j, j < k → putE (zs.getD j 0) (V : Int) = 0) ∧ Below w.heap.size w wr)
    (fun _ i _ => len - (intOf i).toNat)
  case atStart => exact ⟨0, by omega, rfl, by simp [rowB], by intro j hj; omega, B2⟩
  case round =>
    obtain ⟨k, hk, rfl, rfl, hall, B⟩ := hrel
    have HAll := Lib.hid hall
    clear hall
    by_cases hlt : k < len
    · obtain ⟨b, off, rfl, hb, hcs⟩ := hA.out (by omega)
      have d0 := (B.cell (p := ⟨b, off + k, none⟩) hb).trans (hcs k hlt)
      clear hcs
      have hsn := Lib.hid (rowB_snoc (V : Int) zs k (by rw [hz.out]; exact hlt))
      have hln : (rowB (V : Int) (zs.take k)).length ≤ 1000000 := by
        have := rowB_length (V : Int) (zs.take k)
        have := List.length_take_le k zs
        omega
      have hN := hwf.out k (by rw [hz.out]; exact hlt)
      have HP0 := r01put_any (zs.getD k 0) (V : Int) wr hN
      generalize hNN : zs.getD k 0 = N at d0 HP0
      have HNN := Lib.hid hNN
      clear hNN hN
      have hpl := putL_length N (V : Int)
      by_cases hE : putE N (V : Int) = 0
      · rw [hE] at HP0
        have HP1 := Lib.hid HP0
        have HE := Lib.hid hE
        clear hE HP0
        go_wp2_with fail
        refine HP1.out.mono ?_
        rintro e w5 ⟨rfl, b5⟩
        have B5 : Below w.heap.size w w5 := B.trans (b5.mono B.size)
        go_wp2
        go_roundw
        case rel =>
          refine ⟨k + 1, by omega, by go_num, by rw [hsn.out, HNN.out, bytes_add], ?_, B5⟩
          intro j hj
          by_cases e : j = k
          · subst e; rw [HNN.out]; exact HE.out
          · exact HAll.out j (by omega)
        case measure => simp [intOf]; omega
      · have hre := rowE_at (V : Int) zs k HAll.out (by rw [hz.out]; exact hlt) (by rw [HNN.out]; exact hE)
        rw [HNN.out] at hre
        have hrl : rowL (V : Int) zs = [] := by unfold rowL; rw [hre, if_neg hE]
        have hE1 : (putE N (V : Int) != 0) = true := by rw [bne_iff_ne]; exact hE
        have hpe : putL N (V : Int) = [] := putL_no hE
        rw [hpe] at HP0
        clear hE hpe
        generalize putE N (V : Int) = E at hE1 HP0 hre
        have HP1 := Lib.hid HP0
        clear HP0
        go_wp2_with fail
        refine HP1.out.mono ?_
        rintro e w5 ⟨rfl, b5⟩
        have B5 : Below w.heap.size w w5 := B.trans (b5.mono B.size)
        go_wp2_with fail
        refine (awake01 _).mono ?_
        rintro e w3 ⟨rfl, hb3⟩
        go_wp2
        go_ret
        exact ⟨rfl, B5.trans (hb3.mono B5.size)⟩
    · have hkl : Hid (k = zs.length) := Lib.hid (by rw [hz.out]; omega)
      have hre := rowE_ok (V : Int) zs (fun i hi => HAll.out i (by rw [hkl.out]; exact hi))
      have hrl : rowL (V : Int) zs = rowB (V : Int) zs := by unfold rowL; rw [hre, if_pos rfl]
      have htk : rowB (V : Int) (zs.take k) = rowB (V : Int) zs := by rw [hkl.out, List.take_length]
      go_wp2_with fail
      refine (awake01 _).mono ?_
      rintro e w3 ⟨rfl, hb3⟩
      go_wp2
      go_ret
      exact ⟨rfl, B.trans (hb3.mono B.size)⟩

theorem bePads_short (s : ByteArray) (W : Int) (ao : Option Addr) (len cap : Nat) (zs : List Int) (w : World) (hs : s.size ≤ 5000) (hl : len ≤ 600) (hA : IntsAt w ao len zs) (hz : zs.length = len) (hwf : ∀ i, i < zs.length → zs.getD i 0 ≤ 9223372036854775807) :
    Calls Try.prog 4 #[.string s, .int .i64 W, .slice ao len cap] w fun e w' => e = .returned (.bool true) ∧ Below w.heap.size w w' := by
  by_cases hr : 512 < len
  · rcases padWay s W with h | h | ⟨h0, h1, h2⟩ | ⟨h0, h1, h2⟩
    · exact bePads_low_big s W ao len cap zs w hs hl h hr
    · exact bePads_high_big s W ao len cap zs w hs hl h hr
    · exact bePads_big_big s W ao len cap zs w hs hl h0 h1 h2 hr
    · exact bePads_fits_big s W ao len cap zs w hs hl h0 h1 h2 hr
  · have hr : len ≤ 512 := by omega
    rcases padWay s W with h | h | ⟨h0, h1, h2⟩ | ⟨h0, h1, h2⟩
    · exact bePads_low_arg s W ao len cap zs w hs hl h hr
    · exact bePads_high_arg s W ao len cap zs w hs hl h hr
    · by_cases a : W < 1
      · exact bePads_big_zero s W ao len cap zs w hs hl h0 h1 h2 hr a
      by_cases b : 8 < W
      · exact bePads_big_nine s W ao len cap zs w hs hl h0 h1 h2 hr b
      · exact bePads_big_row s W ao len cap zs w hs hl h0 h1 h2 hr (by omega) (by omega) (Lib.hid hA) (Lib.hid hz) (Lib.hid hwf)
    · by_cases a : W < 1
      · exact bePads_fits_zero s W ao len cap zs w hs hl h0 h1 h2 hr a
      by_cases b : 8 < W
      · exact bePads_fits_nine s W ao len cap zs w hs hl h0 h1 h2 hr b
      · exact bePads_fits_row s W ao len cap zs w hs hl h0 h1 h2 hr (by omega) (by omega) (Lib.hid hA) (Lib.hid hz) (Lib.hid hwf)

theorem bePads_walk (s : ByteArray) (W : Int) {H : Type} {enc : TypeId × Value → H} (v : Value) (d : DataW H) (p : List MemPlace) (w : World) (hs : s.size ≤ 140737488351232) (hW : (Lit.int .i64 W).wf = true)
    (hv : ∃ a len cap, v = .slice a len cap) (h : DataW.Trod enc Try.prog w 0 (fun _ => true) true 29 v d p) :
    Calls Try.prog 4 #[.string s, .int .i64 W, v] w fun e w' => e = .returned (.bool true) ∧ Below w.heap.size w w' := by
  obtain ⟨ao, len, cap, zs, rfl, hl, hz, hwf, hA⟩ := open_int_row Try.underlying29 Try.underlying3 (by kernel_rfl) hv h
  by_cases hb : 5000 < s.size ∨ 600 < len
  · exact bePads_long s W ao len cap w hb
  · exact bePads_short s W ao len cap zs w (by omega) (by omega) hA hz (fun i hi => (bounds_i64 (hwf i (by omega))).2)
end Go.Proofs.Ytkcokljkielagaa
