/- Both rigs: the law's do, the calls. -/
import Derived.Test.YtjmginkkjkbpoaaRwO
namespace Go.Proofs.Ytjmginkkjkbpoaa
open Go.RowKit Go.Deep
set_option linter.unusedVariables false
set_option linter.unusedSimpArgs false
set_option maxRecDepth 100000 in
set_option maxHeartbeats 8000000 in
theorem do0_any (B C : Nat) (p : RgP) (last : ByteArray) (cs x g0 g1 : Nat) (d i m : Int) (s : ByteArray) (raw : Bool) (x0 x1 x2 y0 y1 y2 : Value) (w : World) (h : Bo B C w p last cs x g0 g1) (hs : s.size < 300) (hc : cs ≤ 1000) : Calls Try.prog 12 #[.pointer (some ⟨p.R, 0, none⟩), .pointer (some ⟨x, 0, none⟩), .agg #[.int .i64 0, .int .i64 d, .int .i64 i, .int .i64 m, .string s, .bool raw, x0, x1, x2, y0, y1, y2]] w fun e w' => DoP B C p last (cs + 1) x g0 g1 w e w' := by
  obtain ⟨w1, a, HW, HA, HX⟩ := ax_start h #[.int .i64 0, .int .i64 d, .int .i64 i, .int .i64 m, .string s, .bool raw, x0, x1, x2, y0, y1, y2]
  clear h
  have q0 : w1.cell? ⟨a, 0, none⟩ = some (.int .i64 0) := cell_of_row _ _ 0 _ _ _ HX.out.row
  have PQ := Lib.hid (writes_any B C p last cs x g0 g1 0 d i m s raw x0 x1 x2 y0 y1 y2 w1 HX.out.bo hs hc)
  go_enter Try.func12, Try.ntmps12
  go_upto_region 1 with fail
  rw [HW.out, HA.out]
  clear HW HA
  go_wp2_with (refine wpList_load_row rfl _ _ rfl a rfl 34 _ (0, 0) _ HX.out.row Try.underlying34 rfl act_info ?_)
  refine (PQ.out).mono ?_
  rintro e w2 ⟨b, rfl, o2, b2⟩
  go_wp2_with fail
  go_ret
  exact ⟨b, rfl, o2, HX.out.lo.trans b2⟩
set_option maxRecDepth 100000 in
set_option maxHeartbeats 8000000 in
theorem do1_any (B C : Nat) (p : RgP) (last : ByteArray) (cs x g0 g1 : Nat) (d i m : Int) (s : ByteArray) (raw : Bool) (x0 x1 x2 y0 y1 y2 : Value) (w : World) (h : Bo B C w p last cs x g0 g1) (hs : s.size < 300) (hc : cs ≤ 1000) : Calls Try.prog 12 #[.pointer (some ⟨p.R, 0, none⟩), .pointer (some ⟨x, 0, none⟩), .agg #[.int .i64 1, .int .i64 d, .int .i64 i, .int .i64 m, .string s, .bool raw, x0, x1, x2, y0, y1, y2]] w fun e w' => DoP B C p last (cs + 1) x g0 g1 w e w' := by
  obtain ⟨w1, a, HW, HA, HX⟩ := ax_start h #[.int .i64 1, .int .i64 d, .int .i64 i, .int .i64 m, .string s, .bool raw, x0, x1, x2, y0, y1, y2]
  clear h
  have q0 : w1.cell? ⟨a, 0, none⟩ = some (.int .i64 1) := cell_of_row _ _ 0 _ _ _ HX.out.row
  have PQ := Lib.hid (writes_any B C p last cs x g0 g1 1 d i m s raw x0 x1 x2 y0 y1 y2 w1 HX.out.bo hs hc)
  go_enter Try.func12, Try.ntmps12
  go_upto_region 1 with fail
  rw [HW.out, HA.out]
  clear HW HA
  go_wp2_with (refine wpList_load_row rfl _ _ rfl a rfl 34 _ (0, 0) _ HX.out.row Try.underlying34 rfl act_info ?_)
  refine (PQ.out).mono ?_
  rintro e w2 ⟨b, rfl, o2, b2⟩
  go_wp2_with fail
  go_ret
  exact ⟨b, rfl, o2, HX.out.lo.trans b2⟩
set_option maxRecDepth 100000 in
set_option maxHeartbeats 8000000 in
theorem do2_any (B C : Nat) (p : RgP) (last : ByteArray) (cs x g0 g1 : Nat) (d i m : Int) (s : ByteArray) (raw : Bool) (x0 x1 x2 y0 y1 y2 : Value) (w : World) (h : Bo B C w p last cs x g0 g1) (hs : s.size < 300) (hc : cs ≤ 1000) : Calls Try.prog 12 #[.pointer (some ⟨p.R, 0, none⟩), .pointer (some ⟨x, 0, none⟩), .agg #[.int .i64 2, .int .i64 d, .int .i64 i, .int .i64 m, .string s, .bool raw, x0, x1, x2, y0, y1, y2]] w fun e w' => DoP B C p last (cs + 1) x g0 g1 w e w' := by
  obtain ⟨w1, a, HW, HA, HX⟩ := ax_start h #[.int .i64 2, .int .i64 d, .int .i64 i, .int .i64 m, .string s, .bool raw, x0, x1, x2, y0, y1, y2]
  clear h
  have q0 : w1.cell? ⟨a, 0, none⟩ = some (.int .i64 2) := cell_of_row _ _ 0 _ _ _ HX.out.row
  have PQ := Lib.hid (writes_any B C p last cs x g0 g1 2 d i m s raw x0 x1 x2 y0 y1 y2 w1 HX.out.bo hs hc)
  go_enter Try.func12, Try.ntmps12
  go_upto_region 1 with fail
  rw [HW.out, HA.out]
  clear HW HA
  go_wp2_with (refine wpList_load_row rfl _ _ rfl a rfl 34 _ (0, 0) _ HX.out.row Try.underlying34 rfl act_info ?_)
  refine (PQ.out).mono ?_
  rintro e w2 ⟨b, rfl, o2, b2⟩
  go_wp2_with fail
  go_ret
  exact ⟨b, rfl, o2, HX.out.lo.trans b2⟩
set_option maxRecDepth 100000 in
set_option maxHeartbeats 8000000 in
theorem do6_any (B C : Nat) (p : RgP) (last : ByteArray) (cs x g0 g1 : Nat) (d i m : Int) (s : ByteArray) (raw : Bool) (x0 x1 x2 y0 y1 y2 : Value) (w : World) (h : Bo B C w p last cs x g0 g1) (hc : cs ≤ 1000) : Calls Try.prog 12 #[.pointer (some ⟨p.R, 0, none⟩), .pointer (some ⟨x, 0, none⟩), .agg #[.int .i64 6, .int .i64 d, .int .i64 i, .int .i64 m, .string s, .bool raw, x0, x1, x2, y0, y1, y2]] w fun e w' => DoP B C p last (cs + 1) x g0 g1 w e w' := by
  obtain ⟨w1, a, HW, HA, HX⟩ := ax_start h #[.int .i64 6, .int .i64 d, .int .i64 i, .int .i64 m, .string s, .bool raw, x0, x1, x2, y0, y1, y2]
  clear h
  have q0 : w1.cell? ⟨a, 0, none⟩ = some (.int .i64 6) := cell_of_row _ _ 0 _ _ _ HX.out.row
  have PQ := Lib.hid (regs_any B C p last cs x g0 g1 d i m s raw x0 x1 x2 y0 y1 y2 w1 HX.out.bo hc)
  go_enter Try.func12, Try.ntmps12
  go_upto_region 1 with fail
  rw [HW.out, HA.out]
  clear HW HA
  go_wp2_with (refine wpList_load_row rfl _ _ rfl a rfl 34 _ (0, 0) _ HX.out.row Try.underlying34 rfl act_info ?_)
  refine (PQ.out).mono ?_
  rintro e w2 ⟨b, rfl, o2, b2⟩
  go_wp2_with fail
  go_ret
  exact ⟨b, rfl, o2, HX.out.lo.trans b2⟩
set_option maxRecDepth 100000 in
set_option maxHeartbeats 8000000 in
theorem do9_any (B C : Nat) (p : RgP) (last : ByteArray) (cs x g0 g1 : Nat) (d i m : Int) (s : ByteArray) (raw : Bool) (x0 x1 x2 y0 y1 y2 : Value) (w : World) (h : Bo B C w p last cs x g0 g1) (hs : s.size < 300) : Calls Try.prog 12 #[.pointer (some ⟨p.R, 0, none⟩), .pointer (some ⟨x, 0, none⟩), .agg #[.int .i64 9, .int .i64 d, .int .i64 i, .int .i64 m, .string s, .bool raw, x0, x1, x2, y0, y1, y2]] w fun e w' => DoP B C p last (cs + 1) x g0 g1 w e w' := by
  obtain ⟨w1, a, HW, HA, HX⟩ := ax_start h #[.int .i64 9, .int .i64 d, .int .i64 i, .int .i64 m, .string s, .bool raw, x0, x1, x2, y0, y1, y2]
  clear h
  have q0 : w1.cell? ⟨a, 0, none⟩ = some (.int .i64 9) := cell_of_row _ _ 0 _ _ _ HX.out.row
  have PQ := Lib.hid (comes9_any B C p last cs x g0 g1 d i m s raw x0 x1 x2 y0 y1 y2 w1 HX.out.bo hs)
  go_enter Try.func12, Try.ntmps12
  go_upto_region 1 with fail
  rw [HW.out, HA.out]
  clear HW HA
  go_wp2_with (refine wpList_load_row rfl _ _ rfl a rfl 34 _ (0, 0) _ HX.out.row Try.underlying34 rfl act_info ?_)
  refine (PQ.out).mono ?_
  rintro e w2 ⟨b, rfl, o2, b2⟩
  go_wp2_with fail
  go_ret
  exact ⟨b, rfl, o2, HX.out.lo.trans b2⟩
set_option maxRecDepth 100000 in
set_option maxHeartbeats 8000000 in
theorem do10_any (B C : Nat) (p : RgP) (last : ByteArray) (cs x g0 g1 : Nat) (d i m : Int) (s : ByteArray) (raw : Bool) (x0 x1 x2 y0 y1 y2 : Value) (w : World) (h : Bo B C w p last cs x g0 g1) : Calls Try.prog 12 #[.pointer (some ⟨p.R, 0, none⟩), .pointer (some ⟨x, 0, none⟩), .agg #[.int .i64 10, .int .i64 d, .int .i64 i, .int .i64 m, .string s, .bool raw, x0, x1, x2, y0, y1, y2]] w fun e w' => DoP B C p last (cs + 1) x g0 g1 w e w' := by
  obtain ⟨w1, a, HW, HA, HX⟩ := ax_start h #[.int .i64 10, .int .i64 d, .int .i64 i, .int .i64 m, .string s, .bool raw, x0, x1, x2, y0, y1, y2]
  clear h
  have q0 : w1.cell? ⟨a, 0, none⟩ = some (.int .i64 10) := cell_of_row _ _ 0 _ _ _ HX.out.row
  have PQ := Lib.hid (comes10_any B C p last cs x g0 g1 d i m s raw x0 x1 x2 y0 y1 y2 w1 HX.out.bo)
  go_enter Try.func12, Try.ntmps12
  go_upto_region 1 with fail
  rw [HW.out, HA.out]
  clear HW HA
  go_wp2_with (refine wpList_load_row rfl _ _ rfl a rfl 34 _ (0, 0) _ HX.out.row Try.underlying34 rfl act_info ?_)
  refine (PQ.out).mono ?_
  rintro e w2 ⟨b, rfl, o2, b2⟩
  go_wp2_with fail
  go_ret
  exact ⟨b, rfl, o2, HX.out.lo.trans b2⟩
set_option maxRecDepth 100000 in
set_option maxHeartbeats 8000000 in
theorem do11_any (B C : Nat) (p : RgP) (last : ByteArray) (cs x g0 g1 : Nat) (d i m : Int) (s : ByteArray) (raw : Bool) (x0 x1 x2 y0 y1 y2 : Value) (w : World) (h : Bo B C w p last cs x g0 g1) : Calls Try.prog 12 #[.pointer (some ⟨p.R, 0, none⟩), .pointer (some ⟨x, 0, none⟩), .agg #[.int .i64 11, .int .i64 d, .int .i64 i, .int .i64 m, .string s, .bool raw, x0, x1, x2, y0, y1, y2]] w fun e w' => DoP B C p last (cs + 1) x g0 g1 w e w' := by
  obtain ⟨w1, a, HW, HA, HX⟩ := ax_start h #[.int .i64 11, .int .i64 d, .int .i64 i, .int .i64 m, .string s, .bool raw, x0, x1, x2, y0, y1, y2]
  clear h
  have q0 : w1.cell? ⟨a, 0, none⟩ = some (.int .i64 11) := cell_of_row _ _ 0 _ _ _ HX.out.row
  have PQ := Lib.hid (comes11_any B C p last cs x g0 g1 d i m s raw x0 x1 x2 y0 y1 y2 w1 HX.out.bo)
  go_enter Try.func12, Try.ntmps12
  go_upto_region 1 with fail
  rw [HW.out, HA.out]
  clear HW HA
  go_wp2_with (refine wpList_load_row rfl _ _ rfl a rfl 34 _ (0, 0) _ HX.out.row Try.underlying34 rfl act_info ?_)
  refine (PQ.out).mono ?_
  rintro e w2 ⟨b, rfl, o2, b2⟩
  go_wp2_with fail
  go_ret
  exact ⟨b, rfl, o2, HX.out.lo.trans b2⟩
set_option maxRecDepth 100000 in
set_option maxHeartbeats 8000000 in
theorem doE_any (B C : Nat) (p : RgP) (last : ByteArray) (cs x g0 g1 : Nat) (k : Int) (d i m : Int) (s : ByteArray) (raw : Bool) (x0 x1 x2 y0 y1 y2 : Value) (w : World) (h : Bo B C w p last cs x g0 g1) (hc : cs ≤ 1000) (n0 : (k == 0) = false) (n1 : (k == 1) = false) (n2 : (k == 2) = false) (n5 : (k == 5) = false) (n6 : (k == 6) = false) (n7 : (k == 7) = false) (n8 : (k == 8) = false) (n9 : (k == 9) = false) (n10 : (k == 10) = false) (n11 : (k == 11) = false) (n12 : (k == 12) = false) : Calls Try.prog 12 #[.pointer (some ⟨p.R, 0, none⟩), .pointer (some ⟨x, 0, none⟩), .agg #[.int .i64 k, .int .i64 d, .int .i64 i, .int .i64 m, .string s, .bool raw, x0, x1, x2, y0, y1, y2]] w fun e w' => DoP B C p last (cs + 1) x g0 g1 w e w' := by
  obtain ⟨w1, a, HW, HA, HX⟩ := ax_start h #[.int .i64 k, .int .i64 d, .int .i64 i, .int .i64 m, .string s, .bool raw, x0, x1, x2, y0, y1, y2]
  clear h
  have q0 : w1.cell? ⟨a, 0, none⟩ = some (.int .i64 k) := cell_of_row _ _ 0 _ _ _ HX.out.row
  have PQ := Lib.hid (reads_any B C p last cs x g0 g1 k d i m s raw x0 x1 x2 y0 y1 y2 w1 HX.out.bo hc)
  go_enter Try.func12, Try.ntmps12
  go_upto_region 1 with fail
  rw [HW.out, HA.out]
  clear HW HA
  go_wp2_with (refine wpList_load_row rfl _ _ rfl a rfl 34 _ (0, 0) _ HX.out.row Try.underlying34 rfl act_info ?_)
  refine (PQ.out).mono ?_
  rintro e w2 ⟨b, rfl, o2, b2⟩
  go_wp2_with fail
  go_ret
  exact ⟨b, rfl, o2, HX.out.lo.trans b2⟩
end Go.Proofs.Ytjmginkkjkbpoaa
