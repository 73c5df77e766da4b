/- The laws of layer 1: BeNone, BeOrders, BeBack: walks. -/
import Derived.Test.YtkcokljkielagaaLawA
import Derived.Test.YtkcokljkielagaaLibC
import Derived.Test.YtkcokljkielagaaBeD
namespace Go.Proofs.Ytkcokljkielagaa
open Go.RowKit Go.Deep

set_option maxRecDepth 100000 in
set_option maxHeartbeats 400000 in
theorem beNone_walk (n : Int) (w : World) (_hn : (Lit.int .i64 n).wf = true) :
    Calls Try.prog 9 #[.int .i64 n] w fun e w' => e = .returned (.bool true) ∧ Below w.heap.size w w' := by
  go_enter Try.func9, Try.ntmps9
  go_wp2_with (first | (go_at_call 21; refine (num_nil _ _).mono ?_; rintro e w' ⟨rfl, rfl⟩) | (go_at_call 22; refine (bytes_nil _ _).mono ?_; rintro e w' ⟨rfl, rfl⟩) | (go_at_call 14; refine (awake01 _).mono ?_; rintro e w1 ⟨rfl, hb⟩) | (go_at_call 23; refine (left_nil _).mono ?_; rintro e w' ⟨rfl, rfl⟩) | (go_at_call 24; refine (end_nil _).mono ?_; rintro e w' ⟨rfl, rfl⟩))
  go_ret
  exact ⟨rfl, hb⟩

theorem width_of (width : Int) (h : (Lit.int .u8 width).wf = true) : ∃ W : Nat, 1 ≤ W ∧ W ≤ 8 ∧ width % 8 + 1 = (W : Int) := by
  have := bounds_u8 h
  exact ⟨(width % 8 + 1).toNat, by omega, by omega, by omega⟩

theorem put_yes (n : Int) (W : Nat) (w : World) (h : putE n W = 0) :
    Calls Try.prog 10 #[.int .i64 n, .int .i64 W] w fun e w' => e = .returned (.tuple #[.string ⟨(beL n W).toArray⟩, .int .i64 0]) ∧ Below w.heap.size w w' := by
  have := put_any n W w
  rwa [h, putL_ok h] at this
theorem put_not (n : Int) (W : Nat) (w : World) (E : Int) (he : putE n W = E) (h : E ≠ 0) :
    Calls Try.prog 10 #[.int .i64 n, .int .i64 W] w fun e w' => e = .returned (.tuple #[.string ⟨#[]⟩, .int .i64 E]) ∧ Below w.heap.size w w' := by
  have := put_any n W w
  rw [putL_no (by rw [he]; exact h), he] at this
  exact this

set_option maxRecDepth 100000 in
set_option maxHeartbeats 400000 in
theorem beOrders_no (a b width : Int) (w : World) (W : Nat) (HW : Hid (width % 8 + 1 = (W : Int))) (hw0 : 0 ≤ width) (hw1 : width ≤ 255) (ea eb : Int)
    (pa : ∀ w, Calls Try.prog 10 #[.int .i64 a, .int .i64 W] w fun e w' => ∃ s, e = .returned (.tuple #[.string s, .int .i64 ea]) ∧ Below w.heap.size w w')
    (pb : ∀ w, Calls Try.prog 10 #[.int .i64 b, .int .i64 W] w fun e w' => ∃ s, e = .returned (.tuple #[.string s, .int .i64 eb]) ∧ Below w.heap.size w w') (h : Hid (ea ≠ 0 ∨ eb ≠ 0)) :
    Calls Try.prog 8 #[.int .i64 a, .int .i64 b, .int .u8 width] w fun e w' => e = .returned (.bool true) ∧ Below w.heap.size w w' := by
  have HA := Lib.hid pa
  have HB := Lib.hid pb
  clear pa pb
  have hor : (ea != 0) = true ∨ (ea != 0) = false ∧ (eb != 0) = true := by
    by_cases e : ea = 0
    · exact .inr ⟨by simp [e], by rw [bne_iff_ne]; exact h.out.resolve_left (fun hh => hh e)⟩
    · exact .inl (by rw [bne_iff_ne]; exact e)
  rcases hor with ha | ⟨ha, hb⟩
  all_goals
    go_enter Try.func8, Try.ntmps8
    go_wp2_with fail
    rw [HW.out]
    refine (HA.out _).mono ?_
    rintro e w1 ⟨s, rfl, hb1⟩
    go_wp2_with fail
    refine (HB.out _).mono ?_
    rintro e w2 ⟨t, rfl, hb2⟩
    go_wp2_with fail
    refine (awake01 _).mono ?_
    rintro e w3 ⟨rfl, hb3⟩
    go_wp2
    go_ret
    exact ⟨rfl, below_trans (below_trans hb1 hb2) hb3⟩

set_option maxRecDepth 100000 in
set_option maxHeartbeats 400000 in
theorem beOrders_yes (a b width : Int) (w : World) (W : Nat) (HW : Hid (width % 8 + 1 = (W : Int))) (hw0 : 0 ≤ width) (hw1 : width ≤ 255) (h1 : 1 ≤ W) (h8 : W ≤ 8) (hA : a ≤ 9223372036854775807) (hB : b ≤ 9223372036854775807)
    (ha : Hid (putE a W = 0)) (hb : Hid (putE b W = 0)) :
    Calls Try.prog 8 #[.int .i64 a, .int .i64 b, .int .u8 width] w fun e w' => e = .returned (.bool true) ∧ Below w.heap.size w w' := by
  have ho := order_beL W a b (by rw [(high_zero h1 h8 hA ha.out).2, (high_zero h1 h8 hB hb.out).2])
  have hl : Op.bytesLess (⟨(beL a W).toArray⟩ : ByteArray).toList (⟨(beL b W).toArray⟩ : ByteArray).toList = decide (a < b) := by
    rw [Lib.toList_data, Lib.toList_data]; exact ho.1
  have he : ((⟨(beL a W).toArray⟩ : ByteArray).toList == (⟨(beL b W).toArray⟩ : ByteArray).toList) = (a == b) := by
    rw [Lib.toList_data, Lib.toList_data, Bool.eq_iff_iff, beq_iff_eq, beq_iff_eq]; exact ho.2
  have HL := Lib.hid hl
  have HE := Lib.hid he
  clear ho hl he
  go_enter Try.func8, Try.ntmps8
  go_wp2_with fail
  rw [HW.out]
  refine (put_yes a W _ ha.out).mono ?_
  rintro e w1 ⟨rfl, hb1⟩
  go_wp2_with fail
  refine (put_yes b W _ hb.out).mono ?_
  rintro e w2 ⟨rfl, hb2⟩
  generalize (⟨(beL a W).toArray⟩ : ByteArray) = s at HL HE ⊢
  generalize (⟨(beL b W).toArray⟩ : ByteArray) = t at HL HE ⊢
  go_wp2_with fail
  refine (awake01 _).mono ?_
  rintro e w3 ⟨rfl, hb3⟩
  go_wp2
  · go_ret
    refine ⟨?_, below_trans (below_trans hb1 hb2) hb3⟩
    show Ending.returned (.bool ((a == b) == (s.toList == t.toList))) = _
    rw [HE.out]; simp
  · exact absurd HL.out.symm (by assumption)

theorem beOrders_walk (a b width : Int) (w : World) (ha : (Lit.int .i64 a).wf = true) (hb : (Lit.int .i64 b).wf = true) (hw : (Lit.int .u8 width).wf = true) :
    Calls Try.prog 8 #[.int .i64 a, .int .i64 b, .int .u8 width] w fun e w' => e = .returned (.bool true) ∧ Below w.heap.size w w' := by
  obtain ⟨W, h1, h8, hW⟩ := width_of width hw
  have hwb := bounds_u8 hw
  by_cases h : putE a W = 0 ∧ putE b W = 0
  · exact beOrders_yes a b width w W (Lib.hid hW) hwb.1 hwb.2 h1 h8 (bounds_i64 ha).2 (bounds_i64 hb).2 (Lib.hid h.1) (Lib.hid h.2)
  · exact beOrders_no a b width w W (Lib.hid hW) hwb.1 hwb.2 (putE a W) (putE b W) (fun w => (put_any a W w).mono fun _ _ ⟨he, hb⟩ => ⟨_, he, hb⟩) (fun w => (put_any b W w).mono fun _ _ ⟨he, hb⟩ => ⟨_, he, hb⟩)
      (Lib.hid (by by_cases e : putE a W = 0
                   · exact .inr fun h2 => h ⟨e, h2⟩
                   · exact .inl e))

theorem extract_pre (l : List UInt8) (behind : ByteArray) : ((⟨l.toArray⟩ : ByteArray) ++ behind).extract 0 l.length = ⟨l.toArray⟩ := by
  rw [Lib.extract_eq]
  congr 2
  have : ((⟨l.toArray⟩ : ByteArray) ++ behind).data.toList = l ++ behind.data.toList := by simp
  rw [this]; simp

set_option maxRecDepth 100000 in
set_option maxHeartbeats 400000 in
theorem beBack_no (n width : Int) (s : ByteArray) (w : World) (W : Nat) (HW : Hid (width % 8 + 1 = (W : Int))) (hw0 : 0 ≤ width) (hw1 : width ≤ 255) (E : Int) (HE : Hid (putE n W = E)) (h : Hid (E ≠ 0)) :
    Calls Try.prog 7 #[.int .i64 n, .int .u8 width, .string s] w fun e w' => e = .returned (.bool true) ∧ Below w.heap.size w w' := by
  have hne : (E != 0) = true := by rw [bne_iff_ne]; exact h.out
  go_enter Try.func7, Try.ntmps7
  go_wp2_with fail
  rw [HW.out]
  refine (put_not n W _ E HE.out h.out).mono ?_
  rintro e w1 ⟨rfl, hb1⟩
  go_wp2_with fail
  refine (awake01 _).mono ?_
  rintro e w3 ⟨rfl, hb3⟩
  go_wp2
  go_ret
  exact ⟨rfl, below_trans hb1 hb3⟩

set_option maxRecDepth 100000 in
set_option maxHeartbeats 400000 in
theorem beBack_yes (n width : Int) (s : ByteArray) (w : World) (W : Nat) (HW : Hid (width % 8 + 1 = (W : Int))) (hw0 : 0 ≤ width) (hw1 : width ≤ 255) (h1 : 1 ≤ W) (h8 : W ≤ 8) (hN : n ≤ 9223372036854775807) (HE : Hid (putE n W = 0)) (hs : s.size ≤ 140737488351232) :
    Calls Try.prog 7 #[.int .i64 n, .int .u8 width, .string s] w fun e w' => e = .returned (.bool true) ∧ Below w.heap.size w w' := by
  have hg := get_beL h1 h8 hN HE.out
  have hgl : ∀ w, Calls Try.prog 12 #[.string ⟨(beL n W).toArray⟩] w fun e w' => e = .returned (.tuple #[.int .i64 n, .int .i64 0]) ∧ w = w' := fun w => by
    have := get_any ⟨(beL n W).toArray⟩ w
    rw [show (⟨(beL n W).toArray⟩ : ByteArray).data.toList = beL n W from rfl, hg.1, hg.2] at this
    exact this
  have hsz : ((⟨(beL n W).toArray⟩ : ByteArray) ++ s).size = W + s.size := by
    rw [ByteArray.size_append, bytes_size, beL_length]
  have hl : (⟨(beL n W).toArray⟩ : ByteArray).size = W := by rw [bytes_size, beL_length]
  have hnum : ∀ w b, Rd w b ((⟨(beL n W).toArray⟩ : ByteArray) ++ s) 0 → Calls Try.prog 21 #[.pointer (some ⟨b, 0, none⟩), .int .i64 W] w fun e w' => e = .returned (.tuple #[.int .i64 n, .int .i64 0]) ∧ Rd w' b ((⟨(beL n W).toArray⟩ : ByteArray) ++ s) W ∧ w.grownBy w' (some b) := fun w b h => by
    have := num_ok W b w _ 0 h (by omega) (by omega) (by omega) (by omega)
    have e : ((⟨(beL n W).toArray⟩ : ByteArray) ++ s).extract (0 : Int).toNat (0 + (W : Int)).toNat = ⟨(beL n W).toArray⟩ := by
      have := extract_pre (beL n W) s
      rw [beL_length] at this
      rw [show (0 + (W : Int)).toNat = W from by omega]
      exact this
    rw [e, show (⟨(beL n W).toArray⟩ : ByteArray).data.toList = beL n W from rfl, hg.1, hg.2, numAt_ok, show (0 : Int) + W = W from by omega] at this
    exact this
  have HS := Lib.hid hsz
  have HL := Lib.hid hl
  have HN := Lib.hid hnum
  have HG := Lib.hid hgl
  have PY := Lib.hid (fun w => put_yes n W w HE.out)
  clear hsz hl hnum hgl hg
  generalize (⟨(beL n W).toArray⟩ : ByteArray) = t at HS HL HN HG PY
  have hadd : ∀ V : World, (Op.stringOp .add t s).run Try.prog V = .ok (.string (t ++ s)) V := fun V => run_string_add_sum V t s (by rw [HL.out]; omega)
  generalize t ++ s = u at HS HN hadd
  have hts : ((t.size : Int) == (W : Int)) = true := by rw [HL.out]; simp
  have hus : ((u.size : Int) - (W : Int) == (s.size : Int)) = true := by rw [HS.out]; simp; omega
  have hub : u.size ≤ 1000000000000000 := by rw [HS.out]; omega
  go_enter Try.func7, Try.ntmps7
  go_wp2_with fail
  rw [HW.out]
  refine (PY.out _).mono ?_
  rintro e w1 ⟨rfl, hb1⟩
  go_wp2_with fail
  refine (HG.out _).mono ?_
  rintro e w' ⟨rfl, rfl⟩
  go_wp2_with fail
  refine (read_any _ _).mono ?_
  rintro e w' ⟨rfl, rfl⟩
  go_wp2_with fail
  refine (HN.out _ _ (Rd.new _ _ _)).mono ?_
  rintro e w2 ⟨rfl, hr2, hg2⟩
  go_wp2_with fail
  refine (awake01 _).mono ?_
  rintro e w3 ⟨rfl, hb3⟩
  go_wp2_with fail
  refine (left_rd (hr2.below hb3) hub).mono ?_
  rintro e w' ⟨rfl, rfl⟩
  go_wp2
  go_ret
  have B2 := hb1.alloc hb1.size (.cells #[.string u, .int .i64 0] 58)
  have B3 := B2.grown hg2 B2.size (fun k e => by cases e; exact hb1.size)
  exact ⟨rfl, (below_trans B3 hb3).drew⟩

theorem beBack_walk (n width : Int) (s : ByteArray) (w : World) (hn : (Lit.int .i64 n).wf = true) (hw : (Lit.int .u8 width).wf = true) (hs : s.size ≤ 140737488351232) :
    Calls Try.prog 7 #[.int .i64 n, .int .u8 width, .string s] w fun e w' => e = .returned (.bool true) ∧ Below w.heap.size w w' := by
  obtain ⟨W, h1, h8, hW⟩ := width_of width hw
  have hwb := bounds_u8 hw
  by_cases h : putE n W = 0
  · exact beBack_yes n width s w W (Lib.hid hW) hwb.1 hwb.2 h1 h8 (bounds_i64 hn).2 (Lib.hid h) hs
  · exact beBack_no n width s w W (Lib.hid hW) hwb.1 hwb.2 (putE n W) (Lib.hid rfl) (Lib.hid h)
end Go.Proofs.Ytkcokljkielagaa
