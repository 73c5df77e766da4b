/- Laws of package aes (cellaret): AesWords. -/
import Derived.Test.YtbbanhjcchnhpaaAgF
namespace Go.Proofs.Ytbbanhjcchnhpaa
open Go.RowKit Go.Deep
set_option linter.unusedVariables false
set_option linter.unusedSimpArgs false
def accN (x : UInt32) : Nat → Nat
  | 0 => 0
  | r + 1 => 256 * accN x r + (byW x r).toNat
theorem accN_lt (x : UInt32) (r : Nat) : accN x r < 256 ^ r := by
  induction r with
  | zero => exact Nat.lt_succ_self 0
  | succ r ih =>
    have := (byW x r).toNat_lt
    show 256 * accN x r + _ < _
    rw [Nat.pow_succ]
    omega
theorem accN_four (x : UInt32) : accN x 4 = x.toNat := by
  have hx := x.toNat_lt
  obtain ⟨e0, e1, e2, e3⟩ := byW_int x
  show 256 * (256 * (256 * (256 * 0 + (byW x 0).toNat) + (byW x 1).toNat) + (byW x 2).toNat) + (byW x 3).toNat = x.toNat
  omega
theorem i64_nat {a : Int} (h : (Lit.int .i64 a).wf = true) : -9223372036854775808 ≤ a ∧ a ≤ 9223372036854775807 := by
  have := bounds_i64 h
  omega
set_option maxRecDepth 100000 in
set_option maxHeartbeats 2000000 in
theorem aesWords_walk (s : ByteArray) (i : Int) (w : World) (hsz : s.size ≤ 140737488351232) (hi : (Lit.int .i64 i).wf = true) :
    Calls Try.prog 4 #[.string s, .int .i64 i] w fun e w' => e = .returned (.bool true) ∧ Below w.heap.size w w' := by
  by_cases h32 : s.size = 32
  · have ht : ((s.size : Int) == 32) = true := by rw [beq_iff_eq]; omega
    have ht2 : (s.size : Int) = 32 := by omega
    have CN := Lib.hid (fun w => new_any s w h32)
    have CW := Lib.hid (fun xb xc w hX => words_any s xb xc w h32 hX)
    clear h32
    generalize wI s.data.toList 60 = W at *
    by_cases hin : i < 0 ∨ 59 < i
    · have CK := Lib.hid (fun g w => keyWord_out g i w hin)
      rcases hin with hneg | hbig
      · go_enter Try.func4, Try.ntmps4
        go_wp2_with fail
        refine (CN.out _).mono ?_
        rintro e w1 ⟨rfl, hK, b1⟩
        have B1 := Lib.hid b1
        clear hK b1
        go_wp2_with fail
        refine (CK.out _ _).mono ?_
        rintro e w' ⟨rfl, rfl⟩
        go_wp2_with fail
        refine (awake04 _).mono ?_
        rintro e w2 ⟨rfl, b2⟩
        have B2 := Lib.hid (B1.out.trans (b2.mono B1.out.size))
        go_wp2_with fail
        go_ret
        exact ⟨by first | rfl | simp, B2.out⟩
      · have hn0 : ¬ i < 0 := by omega
        go_enter Try.func4, Try.ntmps4
        go_wp2_with fail
        refine (CN.out _).mono ?_
        rintro e w1 ⟨rfl, hK, b1⟩
        have B1 := Lib.hid b1
        clear hK b1
        go_wp2_with fail
        refine (CK.out _ _).mono ?_
        rintro e w' ⟨rfl, rfl⟩
        go_wp2_with fail
        refine (awake04 _).mono ?_
        rintro e w2 ⟨rfl, b2⟩
        have B2 := Lib.hid (B1.out.trans (b2.mono B1.out.size))
        go_wp2_with fail
        go_ret
        exact ⟨by first | rfl | simp, B2.out⟩
    · obtain ⟨n, hn⟩ : ∃ n : Nat, i = (n : Int) := ⟨i.toNat, by omega⟩
      subst hn
      have hn60 : n < 60 := by omega
      have h0 : ¬ (n : Int) < 0 := by omega
      have h1 : ¬ (59 : Int) < (n : Int) := by omega
      have h2 : (n : Int) < 60 := by omega
      clear hin
      have CK := Lib.hid (fun g w hK => keyWord_in g n W w hK hn60)
      go_enter Try.func4, Try.ntmps4
      go_wp2_with fail
      refine (CN.out _).mono ?_
      rintro e w1 ⟨rfl, hK, b1⟩
      have B1 := Lib.hid b1
      have HK := Lib.hid hK
      clear hK b1
      go_wp2_with fail
      refine (CK.out _ _ HK.out).mono ?_
      rintro e w' ⟨rfl, rfl⟩
      go_wp2_with fail
      refine (boxes_any _).mono ?_
      rintro e w2 ⟨xb, xc, rfl, hI, b2⟩
      have B2 := Lib.hid (B1.out.trans (b2.mono B1.out.size))
      have HI := Lib.hid hI
      clear hI b2 HK B1
      go_wp2_with fail
      refine (CW.out xb xc _ HI).mono ?_
      rintro e w3 ⟨rb, rc, bs, cs, rfl, hA, b3⟩
      have B3 := Lib.hid (B2.out.trans (b3.mono B2.out.size))
      have hc := hA.cell n hn60
      have HV := Lib.hid (hA.word n hn60)
      have hlt := hA.wlt n hn60
      have hrl := hA.lt
      clear hA b3 HI B2 CW CK CN
      obtain ⟨x, hx⟩ : ∃ x, Hid (W n = x) := ⟨_, Lib.hid rfl⟩
      rw [hx.out] at HV ⊢
      clear hx
      generalize bs n = bi at *
      generalize cs n = ci at *
      have hxl := x.toNat_lt
      go_wp2_with fail
      go_loopw [10, 11] (fun a y wi => ∃ r : Nat, y = .int .i64 (r : Int) ∧ r ≤ 4 ∧ a = .int .i64 (accN x r : Int) ∧ Hid (wi = w3)) (fun _ y _ => 4 - (intOf y).toNat)
      case atStart => exact ⟨0, rfl, by omega, rfl, Lib.hid rfl⟩
      case round =>
        obtain ⟨r, rfl, hr, rfl, hw⟩ := hrel
        obtain rfl := hw.out
        by_cases hlr : r < 4
        · as_aux_lemma =>
          have hri : (r : Int) < 4 := by omega
          have hv := HV.out r hlr
          have hbv := (byW x r).toNat_lt
          have hacc : accN x r < 16777216 := Nat.lt_of_lt_of_le (accN_lt x r) (by
            rcases (show r = 0 ∨ r = 1 ∨ r = 2 ∨ r = 3 by omega) with rfl | rfl | rfl | rfl <;> decide)
          have HA1 : Hid (∀ a b : Nat, accN x r = a → (byW x r).toNat = b → accN x (r + 1) = 256 * a + b) := Lib.hid (fun a b ha hb => by rw [← ha, ← hb]; rfl)
          obtain ⟨a, ha⟩ : ∃ a, Hid (accN x r = a) := ⟨_, Lib.hid rfl⟩
          obtain ⟨b, hb⟩ : ∃ b, Hid ((byW x r).toNat = b) := ⟨_, Lib.hid rfl⟩
          have HA2 := Lib.hid (HA1.out a b ha.out hb.out)
          rw [ha.out] at hacc ⊢
          rw [hb.out] at hv hbv
          clear HA1 ha hb
          have y1 : IntKind.i64.wrap (256 * (a : Int)) = 256 * a := IntWalk.i64_in _ (by omega)
          have y2 : IntKind.i64.wrap (256 * (a : Int) + b) = 256 * a + b := IntWalk.i64_in _ (by omega)
          go_wp2_with fail
          go_roundw
          case rel => exact ⟨r + 1, by go_num, by omega, by (rw [HA2.out]; first | rfl | go_num), by first | exact Lib.hid rfl | trivial⟩
          case measure => simp [intOf]; omega
        · as_aux_lemma =>
          obtain rfl : r = 4 := by omega
          rw [show ((4 : Nat) : Int) = 4 from rfl, accN_four x]
          have y3 : IntKind.i64.wrap (x.toNat : Int) = x.toNat := IntWalk.i64_in _ (by omega)
          go_wp2_with fail
          refine (awake04 _).mono ?_
          rintro e w4 ⟨rfl, b4⟩
          have B4 := Lib.hid (B3.out.trans (b4.mono B3.out.size))
          go_wp2_with fail
          go_ret
          exact ⟨by first | rfl | simp, B4.out⟩
  · have ht : ((s.size : Int) == 32) = false := by rw [beq_eq_false_iff_ne]; omega
    have CN := Lib.hid (fun w => new_no s w h32)
    go_enter Try.func4, Try.ntmps4
    go_wp2_with fail
    refine (CN.out _).mono ?_
    rintro e w' ⟨rfl, rfl⟩
    go_wp2_with fail
    refine (awake04 _).mono ?_
    rintro e w2 ⟨rfl, b2⟩
    go_wp2_with fail
    go_ret
    exact ⟨by first | rfl | simp, b2⟩
end Go.Proofs.Ytbbanhjcchnhpaa
