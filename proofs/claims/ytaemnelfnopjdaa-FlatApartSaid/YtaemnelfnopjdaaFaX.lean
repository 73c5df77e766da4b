/- The law's awake (flat). -/
import Derived.Test.YtaemnelfnopjdaaFaW
namespace Go.Proofs.Ytaemnelfnopjdaa
open Go.RowKit Go.Deep Go.Maps
set_option linter.unusedVariables false
set_option linter.unusedSimpArgs false
theorem new_ok (N : Nat) (w : World) (h1 : 1 ≤ N) (h2 : N ≤ 64) : Calls Try.prog 7 #[.int .i64 (N : Int)] w fun e w' => ∃ g OL, e = .returned (.tuple #[.pointer (some ⟨g, 0, none⟩), .int .i64 0]) ∧ FlW w' w.heap.size g OL [] (newM N) ∧ Below w.heap.size w w' := by
  refine (new_any (N : Int) w).mono ?_
  intro e w' h
  rw [if_neg (by omega), show ((N : Int)).toNat = N by omega] at h
  exact h
def lA : List UInt8 := List.replicate 48 97
def aA : ByteArray := ⟨lA.toArray⟩
theorem aA_data : daB ⟨0, 0, 1, 97, false⟩ = aA := by kernel_rfl
def mA : Fl := ⟨2, [z48, lA], [zst], [(0, [1])]⟩
def mB : Fl := ⟨2, [z48, lA], [zst, 1 :: List.replicate 63 0], []⟩
def mC : Fl := ⟨2, [z48, lA], [1 :: List.replicate 63 0], []⟩
theorem mA_eq : wrM (newM 2) 0 aA.data.toList 1 = mA := by kernel_rfl
theorem mA_ref : refF 2 0 1 = 0 := by decide
theorem mA_whole : wholeN aA.size = 1 := by kernel_rfl
theorem mB_eq : ({ mA with F := crashL mA, C := [] } : Fl) = mB := by kernel_rfl
theorem mB_read : readR mB 0 1 = .tuple #[.string ⟨#[]⟩, .int .i64 15] := by kernel_rfl
theorem mC_saw : sawB mB 0 aA = true := by kernel_rfl
theorem mC_eq : sawM mB 0 aA = mC := by kernel_rfl
def tA : ByteArray := ⟨(lA ++ z48).toArray⟩
theorem mC_read : readR mC 0 2 = .tuple #[.string tA, .int .i64 0] := by kernel_rfl
theorem zA : (⟨(List.replicate 48 (0 : UInt8)).toArray⟩ : ByteArray) = z48B := rfl
theorem tA_eq : (tA.toList == (aA ++ z48B).toList) = true := by
  have : tA = aA ++ z48B := by kernel_rfl
  rw [this]; simp
theorem mA_ok : FlOk mA := by
  rw [← mA_eq]
  exact wrM_ok (newM_ok (by omega) (by omega)) rfl (by omega) (by decide)
theorem mB_ok : FlOk mB := by rw [← mB_eq]; exact crash_ok mA_ok
theorem mC_ok : FlOk mC := by rw [← mC_eq]; exact sawM_ok mB_ok _ _
set_option maxRecDepth 100000 in
set_option maxHeartbeats 8000000 in
theorem awake26 (w : World) : Calls Try.prog 8 #[] w fun e w' => e = .returned (.bool true) ∧ Below w.heap.size w w' := by
  have CN := Lib.hid (new_ok 2 w (by omega) (by omega))
  rw [show (((2 : Nat) : Int)) = 2 from rfl] at CN
  have CD := Lib.hid (fun w => data_any ⟨0, 0, 1, 97, false⟩ w)
  rw [aA_data] at CD
  have hacv : acV ⟨0, 0, 1, 97, false⟩ = .agg #[.int .i64 0, .int .i64 0, .int .i64 1, .int .u8 97, .bool false] := by kernel_rfl
  rw [hacv] at CD
  have CZ := Lib.hid (fun w => zeros_anyF 48 w (by omega))
  rw [show (((48 : Nat) : Int)) = 48 from rfl, zA] at CZ
  have haA : aA.size = 48 := by kernel_rfl
  have hzA : z48B.size = 48 := by kernel_rfl
  have htq := tA_eq
  have CW := Lib.hid (fun w g B OL (h : FlW w B g OL [] (newM 2)) => write_yes 0 aA h (by show 2 ≤ 64; omega) (by rw [haA]; omega) (by rw [mA_whole]; exact mA_ref) (by show 1 ≤ 90000; omega) (by show 0 ≤ 100000; omega))
  rw [mA_whole, show ((0 : Int)).toNat = 0 from rfl, mA_eq] at CW
  have CC := Lib.hid (fun w g B OL CL (h : FlW w B g OL CL mA) => crash_any h mA_ok (by show 1 ≤ 1000000; omega) (by show 1 ≤ 2000000000; omega) (by show 1 * (1 + 1) ≤ 2000000000; omega) (by show 2 ≤ 1000000; omega))
  rw [mB_eq] at CC
  have CR := Lib.hid (fun w g B OL CL (h : FlW w B g OL CL mB) => read_any 0 1 h mB_ok (by omega) (by show 0 ≤ 1000000; omega) (by show 2 ≤ 2000000000; omega) (by show 2 ≤ 1000000; omega))
  rw [mB_read] at CR
  have CS := Lib.hid (fun w g B OL CL (h : FlW w B g OL CL mB) => saw_any 0 aA h mB_ok.n64 (by rw [haA]; omega) mB_ok.ch (by show 0 ≤ 1000000; omega) mB_ok.f64 (by show 2 ≤ 2000000000; omega))
  rw [mC_saw, mC_eq] at CS
  have CR2 := Lib.hid (fun w g B OL CL (h : FlW w B g OL CL mC) => read_any 0 2 h mC_ok (by omega) (by show 0 ≤ 1000000; omega) (by show 1 ≤ 2000000000; omega) (by show 2 ≤ 1000000; omega))
  rw [mC_read] at CR2
  have CWB := Lib.hid (fun w g B OL CL (h : FlW w B g OL CL mB) => worlds_any h)
  rw [show ((mB.F.length : Nat) : Int) = 2 from rfl] at CWB
  have CWC := Lib.hid (fun w g B OL CL (h : FlW w B g OL CL mC) => worlds_any h)
  rw [show ((mC.F.length : Nat) : Int) = 1 from rfl] at CWC
  generalize tA = t at *
  generalize aA = s at *
  generalize z48B = z at *
  generalize mA = MA at *
  generalize mB = MB at *
  generalize mC = MC at *
  generalize newM 2 = M0 at *
  have hcat : (9223372036854775807 < s.size + z.size) = False := by rw [haA, hzA]; simp
  clear hacv
  go_enter Try.func8, Try.ntmps8
  go_wp2_with fail
  refine CN.out.mono ?_
  rintro e w1 ⟨g, OL, rfl, f1, b1⟩
  have HB1 := Lib.hid b1
  have H1 := Lib.hid f1
  clear CN b1 f1
  go_wp2_with fail
  refine (CD.out w1).mono ?_
  rintro e w2 ⟨rfl, b2⟩
  have HB2 := Lib.hid (HB1.out.trans (b2.mono HB1.out.size))
  have H2 := Lib.hid (H1.out.below b2)
  clear CD b2 H1 HB1
  go_wp2_with fail
  refine (CW.out w2 g _ _ H2.out).mono ?_
  rintro e w3 ⟨rfl, OL3, CL3, f3, k3, _, _⟩
  have HB3 := Lib.hid (HB2.out.trans k3.below)
  have H3 := Lib.hid f3
  clear CW k3 f3 H2 HB2
  go_wp2_with fail
  refine (CC.out w3 g _ _ _ H3.out).mono ?_
  rintro e w4 ⟨rfl, OL4, CL4, f4, k4, _, _⟩
  have HB4 := Lib.hid (HB3.out.trans k4.below)
  have H4 := Lib.hid f4
  clear CC k4 f4 H3 HB3
  go_wp2_with fail
  refine (CR.out w4 g _ _ _ H4.out).mono ?_
  rintro e w5 ⟨rfl, b5⟩
  have HB5 := Lib.hid (HB4.out.trans (b5.mono HB4.out.size))
  have H5 := Lib.hid (H4.out.below b5)
  clear CR b5 H4 HB4
  go_wp2_with fail
  refine (CWB.out w5 g _ _ _ H5.out).mono ?_
  rintro e w' ⟨rfl, rfl⟩
  go_wp2_with fail
  refine (CS.out w5 g _ _ _ H5.out).mono ?_
  rintro e w6 ⟨rfl, OL6, CL6, f6, k6, _, _⟩
  have HB6 := Lib.hid (HB5.out.trans k6.below)
  have H6 := Lib.hid f6
  clear CS k6 f6 H5 HB5 CWB
  go_wp2_with fail
  refine (CR2.out w6 g _ _ _ H6.out).mono ?_
  rintro e w7 ⟨rfl, b7⟩
  have HB7 := Lib.hid (HB6.out.trans (b7.mono HB6.out.size))
  have H7 := Lib.hid (H6.out.below b7)
  clear CR2 b7 H6 HB6
  go_wp2_with fail
  refine (CWC.out w7 g _ _ _ H7.out).mono ?_
  rintro e w' ⟨rfl, rfl⟩
  go_wp2_with fail
  refine (CZ.out w7).mono ?_
  rintro e w8 ⟨rfl, b8⟩
  have HB8 := Lib.hid (HB7.out.trans (b8.mono HB7.out.size))
  clear CZ b8 H7 HB7 CWC
  go_wp2_with fail
  go_ret
  exact ⟨by first | rfl | simp [htq], HB8.out⟩
end Go.Proofs.Ytaemnelfnopjdaa
