/- Package ctr (cellaret): Kind, Unseal. -/
import Derived.Test.YtbbanhjcchnhpaaCtC
namespace Go.Proofs.Ytbbanhjcchnhpaa
open Go.RowKit Go.Deep
set_option linter.unusedVariables false
set_option linter.unusedSimpArgs false
def kE (s : ByteArray) : Int := getE (s.extract 0 8).data.toList
def kV (s : ByteArray) : Int := getV (s.extract 0 8).data.toList
def kB (s : ByteArray) : Nat := (bAt s.data.toList 8).toNat
def kZ (s : ByteArray) : Bool := (s.extract 9 16).toList == (⟨#[0, 0, 0, 0, 0, 0, 0]⟩ : ByteArray).toList
/-- What is a physical block. -/
def okK (s : ByteArray) : Bool := kE s == 0 && okN (kV s) && (decide (kB s = 1) || decide (kB s = 2)) && kZ s
theorem kd_len (s : ByteArray) (w : World) (hs : s.size ≠ 64) : Calls Try.prog 38 #[.string s] w fun e w' => e = .returned (.tuple #[.int .i64 0, .int .i64 0, .int .i64 6]) ∧ w = w' := by
  have ht : ((s.size : Int) == 64) = false := by rw [beq_eq_false_iff_ne]; omega
  go_enter Try.func38, Try.ntmps38
  go_wp2_with fail
  go_ret3
  exact ⟨rfl, rfl⟩
set_option maxRecDepth 100000 in
set_option maxHeartbeats 3000000 in
theorem kd_raw (s : ByteArray) (w : World) (hs : s.size = 64) (r : Bool) (hr : okK s = r) : Calls Try.prog 38 #[.string s] w fun e w' => e = .returned (.tuple #[.int .i64 (if r = true then kV s else 0), .int .i64 (if r = true then (kB s : Int) else 0), .int .i64 (if r = true then 0 else 6)]) ∧ w = w' := by
  have ht : ((s.size : Int) == 64) = true := by rw [beq_iff_eq]; omega
  have hs64 : (s.size : Int) = 64 := by omega
  have CG := Lib.hid (fun w => get_any (s.extract 0 8) w)
  have HIX := index_str s 8 8 rfl (by omega)
  have hbb := (bAt s.data.toList 8).toNat_lt
  have hZ : ((s.extract 9 16).toList == (⟨#[0, 0, 0, 0, 0, 0, 0]⟩ : ByteArray).toList) = kZ s := rfl
  have HR : Hid ((kE s == 0 && okN (kV s) && (decide (kB s = 1) || decide (kB s = 2)) && kZ s) = r) := Lib.hid hr
  rw [show getV (s.extract 0 8).data.toList = kV s from rfl, show getE (s.extract 0 8).data.toList = kE s from rfl] at CG
  rw [show ((bAt s.data.toList 8).toNat) = kB s from rfl] at HIX hbb
  have CM := Lib.hid (fun w => mayBe_any (kV s) w)
  generalize hz9 : s.extract 9 16 = z9 at *
  generalize hz8 : s.extract 0 8 = z8 at *
  generalize kE s = e0 at *
  generalize kB s = b0 at *
  generalize kZ s = zz at *
  have hl7 : (⟨#[0, 0, 0, 0, 0, 0, 0]⟩ : ByteArray).toList = [0, 0, 0, 0, 0, 0, 0] := by decide +kernel
  rw [hl7] at hZ
  have hw1 : IntKind.i64.wrap (b0 : Int) = b0 := IntWalk.i64_in _ (by omega)
  clear hr
  generalize okN (kV s) = t3 at *
  generalize kV s = v0 at *
  by_cases h0 : e0 = 0
  · subst h0
    cases t3 with
    | false =>
      obtain rfl : false = r := by have := HR.out; simpa using this
      go_enter Try.func38, Try.ntmps38
      go_wp2_with fail
      refine (CG.out _).mono ?_
      rintro e w' ⟨rfl, rfl⟩
      go_wp2_with fail
      refine (CM.out _).mono ?_
      rintro e w' ⟨rfl, rfl⟩
      go_wp2_with fail
      go_ret3
      exact ⟨rfl, rfl⟩
    | true =>
      rcases (show b0 = 1 ∨ b0 = 2 ∨ (b0 ≠ 1 ∧ b0 ≠ 2) by omega) with rfl | rfl | ⟨n1, n2⟩
      · obtain rfl : zz = r := by have := HR.out; simpa using this
        rw [show ((1 : Nat) : Int) = 1 from rfl] at *
        cases zz with
        | false =>
          go_enter Try.func38, Try.ntmps38
          go_wp2_with fail
          refine (CG.out _).mono ?_
          rintro e w' ⟨rfl, rfl⟩
          go_wp2_with fail
          refine (CM.out _).mono ?_
          rintro e w' ⟨rfl, rfl⟩
          go_wp2_with fail
          go_ret3
          exact ⟨rfl, rfl⟩
        | true =>
          go_enter Try.func38, Try.ntmps38
          go_wp2_with fail
          refine (CG.out _).mono ?_
          rintro e w' ⟨rfl, rfl⟩
          go_wp2_with fail
          refine (CM.out _).mono ?_
          rintro e w' ⟨rfl, rfl⟩
          go_wp2_with fail
          go_ret3
          exact ⟨rfl, rfl⟩
      · obtain rfl : zz = r := by have := HR.out; simpa using this
        rw [show ((2 : Nat) : Int) = 2 from rfl] at *
        cases zz with
        | false =>
          go_enter Try.func38, Try.ntmps38
          go_wp2_with fail
          refine (CG.out _).mono ?_
          rintro e w' ⟨rfl, rfl⟩
          go_wp2_with fail
          refine (CM.out _).mono ?_
          rintro e w' ⟨rfl, rfl⟩
          go_wp2_with fail
          go_ret3
          exact ⟨rfl, rfl⟩
        | true =>
          go_enter Try.func38, Try.ntmps38
          go_wp2_with fail
          refine (CG.out _).mono ?_
          rintro e w' ⟨rfl, rfl⟩
          go_wp2_with fail
          refine (CM.out _).mono ?_
          rintro e w' ⟨rfl, rfl⟩
          go_wp2_with fail
          go_ret3
          exact ⟨rfl, rfl⟩
      · obtain rfl : false = r := by have := HR.out; simpa [n1, n2] using this
        have p1 : ¬ (b0 : Int) = 1 := by omega
        have p2 : ¬ (b0 : Int) = 2 := by omega
        go_enter Try.func38, Try.ntmps38
        go_wp2_with fail
        refine (CG.out _).mono ?_
        rintro e w' ⟨rfl, rfl⟩
        go_wp2_with fail
        refine (CM.out _).mono ?_
        rintro e w' ⟨rfl, rfl⟩
        go_wp2_with fail
        go_ret3
        exact ⟨rfl, rfl⟩
  · obtain rfl : false = r := by have := HR.out; rw [show (e0 == 0) = false from beq_eq_false_iff_ne.2 h0] at this; simpa using this
    go_enter Try.func38, Try.ntmps38
    go_wp2_with fail
    refine (CG.out _).mono ?_
    rintro e w' ⟨rfl, rfl⟩
    go_wp2_with fail
    go_ret3
    exact ⟨rfl, rfl⟩
theorem kd_ok (s : ByteArray) (w : World) (hs : s.size = 64) (hr : okK s = true) : Calls Try.prog 38 #[.string s] w fun e w' => e = .returned (.tuple #[.int .i64 (kV s), .int .i64 (kB s : Int), .int .i64 0]) ∧ w = w' := kd_raw s w hs true hr
theorem kd_no (s : ByteArray) (w : World) (hr : s.size = 64 → okK s = false) : Calls Try.prog 38 #[.string s] w fun e w' => e = .returned (.tuple #[.int .i64 0, .int .i64 0, .int .i64 6]) ∧ w = w' := by
  by_cases hs : s.size = 64
  · exact kd_raw s w hs false (hr hs)
  · exact kd_len s w hs
theorem un_no (o : Option Addr) (s : ByteArray) (w : World) (hr : s.size = 64 → okK s = false) : Calls Try.prog 39 #[.pointer o, .string s] w fun e w' => e = .returned (.tuple #[.string ⟨#[]⟩, .int .i64 6]) ∧ w = w' := by
  have CK := Lib.hid (fun w => kd_no s w hr)
  clear hr
  go_enter Try.func39, Try.ntmps39
  go_wp2_with fail
  refine (CK.out _).mono ?_
  rintro e w' ⟨rfl, rfl⟩
  go_wp2_with fail
  go_ret2
  exact ⟨rfl, rfl⟩
/-- A block's body. -/
def bodyB (s : ByteArray) : ByteArray := s.extract 16 64
theorem bodyB_size (s : ByteArray) (hs : s.size = 64) : (bodyB s).size = 48 := by unfold bodyB; rw [ByteArray.size_extract]; omega
theorem un_plain (o : Option Addr) (s : ByteArray) (w : World) (hs : s.size = 64) (hr : okK s = true) (hb : kB s = 2) : Calls Try.prog 39 #[.pointer o, .string s] w fun e w' => e = .returned (.tuple #[.string (bodyB s), .int .i64 0]) ∧ w = w' := by
  have CK := Lib.hid (fun w => kd_ok s w hs hr)
  rw [hb, show ((2 : Nat) : Int) = 2 from rfl] at CK
  have e1 : s.extract 16 s.size = bodyB s := by rw [hs]; rfl
  have e2 : s.extract 16 64 = bodyB s := rfl
  have hs64 : (s.size : Int) = 64 := by omega
  generalize kV s = v0 at *
  generalize bodyB s = b0 at *
  clear hr hb
  go_enter Try.func39, Try.ntmps39
  go_wp2_with fail
  refine (CK.out _).mono ?_
  rintro e w' ⟨rfl, rfl⟩
  go_wp2_with fail
  go_ret2
  exact ⟨rfl, rfl⟩
theorem un_nil (s : ByteArray) (w : World) (hs : s.size = 64) (hr : okK s = true) (hb : kB s = 1) : Calls Try.prog 39 #[.pointer none, .string s] w fun e w' => e = .returned (.tuple #[.string ⟨#[]⟩, .int .i64 1]) ∧ w = w' := by
  have CK := Lib.hid (fun w => kd_ok s w hs hr)
  rw [hb, show ((1 : Nat) : Int) = 1 from rfl] at CK
  have e1 : s.extract 16 s.size = bodyB s := by rw [hs]; rfl
  have e2 : s.extract 16 64 = bodyB s := rfl
  have hs64 : (s.size : Int) = 64 := by omega
  generalize kV s = v0 at *
  generalize bodyB s = b0 at *
  have CC := Lib.hid (fun w => cr_nil v0 b0 w)
  clear hr hb
  go_enter Try.func39, Try.ntmps39
  go_wp2_with fail
  refine (CK.out _).mono ?_
  rintro e w' ⟨rfl, rfl⟩
  go_wp2_with fail
  refine (CC.out _).mono ?_
  rintro e w' ⟨rfl, rfl⟩
  go_wp2_with fail
  go_ret2
  exact ⟨rfl, rfl⟩
theorem okK_num {s : ByteArray} (h : okK s = true) : okN (kV s) = true := by
  unfold okK at h
  simp only [Bool.and_eq_true] at h
  exact h.1.1.2
theorem un_ok (kg : Nat) (W : Nat → UInt32) (s : ByteArray) (w : World) (hs : s.size = 64) (hr : okK s = true) (hb : kB s = 1) (hK : Hid (KeyAt w kg W)) : Calls Try.prog 39 #[.pointer (some ⟨kg, 0, none⟩), .string s] w fun e w' => e = .returned (.tuple #[.string (cryB W (kV s) (bodyB s)), .int .i64 0]) ∧ Below w.heap.size w w' := by
  have CK := Lib.hid (fun w => kd_ok s w hs hr)
  rw [hb, show ((1 : Nat) : Int) = 1 from rfl] at CK
  have hz := bodyB_size s hs
  have e1 : s.extract 16 s.size = bodyB s := by rw [hs]; rfl
  have e2 : s.extract 16 64 = bodyB s := rfl
  have hs64 : (s.size : Int) = 64 := by omega
  have hnum := okK_num hr
  generalize kV s = v0 at *
  generalize bodyB s = b0 at *
  have CC := Lib.hid (fun w hK => cr_ok kg W v0 b0 w hnum (by omega) hK)
  generalize cryB W v0 b0 = r at *
  clear hr hb hnum
  go_enter Try.func39, Try.ntmps39
  go_wp2_with fail
  refine (CK.out _).mono ?_
  rintro e w' ⟨rfl, rfl⟩
  go_wp2_with fail
  refine (CC.out _ hK).mono ?_
  rintro e w1 ⟨rfl, b1⟩
  go_wp2_with fail
  go_ret2
  exact ⟨rfl, b1⟩
/-! What a head and a body are, as a block. -/
theorem blk_list (num : Int) (k : Nat) (b : ByteArray) : (headB num k ++ b).data.toList = (beL num 8 ++ [UInt8.ofNat k] ++ [0, 0, 0, 0, 0, 0, 0]) ++ b.data.toList := by
  unfold headB z7
  simp
theorem blk_size (num : Int) (k : Nat) (b : ByteArray) (hb : b.size = 48) : (headB num k ++ b).size = 64 := by rw [ByteArray.size_append, headB_size, hb]
theorem ext_list (s : ByteArray) (a b : Nat) : (s.extract a b).data.toList = (s.data.toList.take b).drop a := by
  rw [ByteArray.data_extract, Array.toList_extract, List.extract_eq_take_drop, List.drop_take]
theorem blk_num (num : Int) (k : Nat) (b : ByteArray) : ((headB num k ++ b).extract 0 8).data.toList = beL num 8 := by
  rw [ext_list, blk_list, List.drop_zero, List.append_assoc, List.append_assoc, List.take_append_of_le_length (by rw [beL_len]; omega), List.take_of_length_le (by rw [beL_len]; omega)]
theorem blk_kE (num : Int) (k : Nat) (b : ByteArray) (hn : okN num = true) : kE (headB num k ++ b) = 0 ∧ kV (headB num k ++ b) = num := by
  obtain ⟨h0, h1⟩ := okN_true hn
  unfold kE kV
  rw [blk_num]
  exact get_beL (by omega) (by omega) (by omega) (by unfold putE; rw [if_pos (by decide), if_neg (by omega)])
theorem blk_kB (num : Int) (k : Nat) (b : ByteArray) (hk : k < 256) : kB (headB num k ++ b) = k := by
  unfold kB bAt
  rw [blk_list, List.append_assoc, List.append_assoc, List.getElem?_append_right (by rw [beL_len]; omega), beL_len]
  show (UInt8.ofNat k).toNat = k
  rw [UInt8.toNat_ofNat']
  omega
theorem blk_kZ (num : Int) (k : Nat) (b : ByteArray) : kZ (headB num k ++ b) = true := by
  have h : (headB num k ++ b).extract 9 16 = ⟨#[0, 0, 0, 0, 0, 0, 0]⟩ := by
    apply ByteArray.ext
    apply Array.ext'
    rw [ext_list, blk_list]
    have hb : (beL num 8).length = 8 := beL_len num 8
    generalize beL num 8 = l at hb
    match l, hb with
    | [a0, a1, a2, a3, a4, a5, a6, a7], _ => rfl
  unfold kZ
  rw [h]
  exact beq_self_eq_true _
theorem blk_ok (num : Int) (k : Nat) (b : ByteArray) (hn : okN num = true) (hk : k = 1 ∨ k = 2) : okK (headB num k ++ b) = true := by
  obtain ⟨h1, h2⟩ := blk_kE num k b hn
  unfold okK
  rw [h1, h2, hn, blk_kZ, blk_kB num k b (by omega)]
  rcases hk with rfl | rfl <;> rfl
theorem blk_body (num : Int) (k : Nat) (b : ByteArray) (hb : b.size = 48) : bodyB (headB num k ++ b) = b := by
  unfold bodyB
  apply ByteArray.ext
  apply Array.ext'
  have hl : b.data.toList.length = 48 := by rw [← Lib.size_eq]; exact hb
  have h16 : (beL num 8 ++ [UInt8.ofNat k] ++ [0, 0, 0, 0, 0, 0, 0]).length = 16 := by rw [List.length_append, List.length_append, beL_len]; rfl
  rw [ext_list, blk_list, List.take_of_length_le (by rw [List.length_append, h16, hl]; omega), List.drop_append_of_le_length (by rw [h16]; omega), List.drop_of_length_le (by rw [h16]; omega), List.nil_append]
end Go.Proofs.Ytbbanhjcchnhpaa
