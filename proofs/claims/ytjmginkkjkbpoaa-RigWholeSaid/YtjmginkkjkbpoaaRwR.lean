/- Both rigs: the law's do, Crash; and do whole. -/
import Derived.Test.YtjmginkkjkbpoaaRwQ
namespace Go.Proofs.Ytjmginkkjkbpoaa
open Go.RowKit Go.Deep
set_option linter.unusedVariables false
set_option linter.unusedSimpArgs false
theorem range3 {w : World} {b o : Nat} {v0 v1 v2 : Value} (h0 : w.cell? ⟨b, o, none⟩ = some v0) (h1 : w.cell? ⟨b, o + 1, none⟩ = some v1) (h2 : w.cell? ⟨b, o + 2, none⟩ = some v2) : w.rangeAt b o [v0, v1, v2] := fun j v hj => by
  match j, hj with
  | 0, hj => injection hj with hj; subst hj; exact h0
  | 1, hj => injection hj with hj; subst hj; exact h1
  | 2, hj => injection hj with hj; subst hj; exact h2
/-- A loss that lies below B. -/
def LsB (w : World) (B : Nat) (X : LsV) : Prop := LsAt w X ∧ ∀ kb ko, X.ao = some ⟨kb, ko, none⟩ → X.kl ≠ 0 → kb < B
theorem LsB.below {w w' : World} {B : Nat} {X : LsV} (h : LsB w B X) (b : Below B w w') : LsB w' B X := ⟨h.1.below h.2 b, h.2⟩
section
variable {B C cs x g0 g1 a : Nat} {w0 w : World} {p : RgP} {last : ByteArray} {A : Array Value} {X Y : LsV}
theorem Ax.xcrash (h : Ax B C w0 w p last cs x g0 g1 a A) (hX : LsB w0 B X) (hY : LsB w0 B Y) : Calls Try.prog 38 #[.pointer (some ⟨x, 0, none⟩), .agg X.cells, .agg Y.cells] w fun e w' => e = .returned (.tuple #[]) ∧ Ax B C w0 w' p last cs x g0 g1 a A := by
  obtain ⟨S, hS⟩ := h.bo.xx
  refine (xCrash_any C x g0 g1 S X Y w hS h.bo.hw (hX.below h.lo).1 (hY.below h.lo).1 (fun kb ko e1 e2 => Nat.lt_of_lt_of_le (hX.2 kb ko e1 e2) h.bo.hb) (fun kb ko e1 e2 => Nat.lt_of_lt_of_le (hY.2 kb ko e1 e2) h.bo.hb)).mono ?_
  rintro e w' ⟨rfl, m⟩
  exact ⟨rfl, h.ref m⟩
theorem Ax.crash (h : Ax B C w0 w p last cs x g0 g1 a A) (hX : LsB w0 B X) (hY : LsB w0 B Y) : Calls Try.prog 14 #[.pointer (some ⟨p.R, 0, none⟩), .agg X.cells, .agg Y.cells] w fun e w' => e = .returned (.int .i64 0) ∧ Ax B C w0 w' p last (cs + 1) x g0 g1 a A := by
  have o := h.bo.rg.ord
  refine (gCrash X Y h.bo.rg h.bo.bw (hX.below h.lo).1 (hY.below h.lo).1 (fun kb ko e1 e2 => by have := hX.2 kb ko e1 e2; omega) (fun kb ko e1 e2 => by have := hY.2 kb ko e1 e2; omega) (fun kb ko e1 e2 => by have := hY.2 kb ko e1 e2; omega)).mono ?_
  rintro e w' ⟨rfl, r, k⟩
  exact ⟨rfl, h.rig r k⟩
end
set_option maxRecDepth 100000 in
set_option maxHeartbeats 8000000 in
theorem do12_any (B C : Nat) (p : RgP) (last : ByteArray) (cs x g0 g1 : Nat) (d i m : Int) (s : ByteArray) (raw : Bool) (X Y : LsV) (w : World) (h : Bo B C w p last cs x g0 g1) (hX : LsB w B X) (hY : LsB w B Y) : Calls Try.prog 12 #[.pointer (some ⟨p.R, 0, none⟩), .pointer (some ⟨x, 0, none⟩), .agg #[.int .i64 12, .int .i64 d, .int .i64 i, .int .i64 m, .string s, .bool raw, .slice X.ao X.kl X.kc, .int .i64 X.torn, .int .i64 X.bytes, .slice Y.ao Y.kl Y.kc, .int .i64 Y.torn, .int .i64 Y.bytes]] w fun e w' => DoP B C p last (cs + 1) x g0 g1 w e w' := by
  obtain ⟨w1, a, HW, HA, HX⟩ := ax_start h #[.int .i64 12, .int .i64 d, .int .i64 i, .int .i64 m, .string s, .bool raw, .slice X.ao X.kl X.kc, .int .i64 X.torn, .int .i64 X.bytes, .slice Y.ao Y.kl Y.kc, .int .i64 Y.torn, .int .i64 Y.bytes]
  clear h
  have q0 : w1.cell? ⟨a, 0, none⟩ = some (.int .i64 12) := cell_of_row _ _ 0 _ _ _ HX.out.row
  have Q6 : Hid (w1.rangeAt a 6 [.slice X.ao X.kl X.kc, .int .i64 X.torn, .int .i64 X.bytes]) := Lib.hid (range3 (cell_of_row _ _ 6 _ _ _ HX.out.row) (cell_of_row _ _ 7 _ _ _ HX.out.row) (cell_of_row _ _ 8 _ _ _ HX.out.row))
  have Q9 : Hid (w1.rangeAt a 9 [.slice Y.ao Y.kl Y.kc, .int .i64 Y.torn, .int .i64 Y.bytes]) := Lib.hid (range3 (cell_of_row _ _ 9 _ _ _ HX.out.row) (cell_of_row _ _ 10 _ _ _ HX.out.row) (cell_of_row _ _ 11 _ _ _ HX.out.row))
  have PX := Lib.hid (HX.out.xcrash hX hY)
  go_enter Try.func12, Try.ntmps12
  go_upto_region 1 with fail
  rw [HW.out, HA.out]
  clear HW HA
  go_wp2_with (first | refine wpList_load_mid rfl _ _ rfl a 6 rfl _ _ Q6.out Try.underlying32 rfl ls_info ?_ | refine wpList_load_mid rfl _ _ rfl a 9 rfl _ _ Q9.out Try.underlying32 rfl ls_info ?_)
  refine (PX.out).mono ?_
  rintro e w2 ⟨rfl, x2⟩
  have HX2 := Lib.hid x2
  clear x2 HX PX q0 Q6 Q9
  have Q6 : Hid (w2.rangeAt a 6 [.slice X.ao X.kl X.kc, .int .i64 X.torn, .int .i64 X.bytes]) := Lib.hid (range3 (cell_of_row _ _ 6 _ _ _ HX2.out.row) (cell_of_row _ _ 7 _ _ _ HX2.out.row) (cell_of_row _ _ 8 _ _ _ HX2.out.row))
  have Q9 : Hid (w2.rangeAt a 9 [.slice Y.ao Y.kl Y.kc, .int .i64 Y.torn, .int .i64 Y.bytes]) := Lib.hid (range3 (cell_of_row _ _ 9 _ _ _ HX2.out.row) (cell_of_row _ _ 10 _ _ _ HX2.out.row) (cell_of_row _ _ 11 _ _ _ HX2.out.row))
  have PX := Lib.hid (HX2.out.crash hX hY)
  go_wp2_with (first | refine wpList_load_mid rfl _ _ rfl a 6 rfl _ _ Q6.out Try.underlying32 rfl ls_info ?_ | refine wpList_load_mid rfl _ _ rfl a 9 rfl _ _ Q9.out Try.underlying32 rfl ls_info ?_)
  refine (PX.out).mono ?_
  rintro e w3 ⟨rfl, x3⟩
  have HX3 := Lib.hid x3
  clear x3 HX2 PX Q6 Q9
  go_wp2_with fail
  go_ret
  exact HX3.out.fin _
/-- The law's do: every act but a store into the register. -/
theorem do_any (B C : Nat) (p : RgP) (last : ByteArray) (cs x g0 g1 : Nat) (k d i m : Int) (s : ByteArray) (raw : Bool) (X Y : LsV) (w : World) (h : Bo B C w p last cs x g0 g1) (hs : s.size < 300) (hc : cs ≤ 1000) (hX : LsB w B X) (hY : LsB w B Y) (h7 : k ≠ 7) : Calls Try.prog 12 #[.pointer (some ⟨p.R, 0, none⟩), .pointer (some ⟨x, 0, none⟩), .agg #[.int .i64 k, .int .i64 d, .int .i64 i, .int .i64 m, .string s, .bool raw, .slice X.ao X.kl X.kc, .int .i64 X.torn, .int .i64 X.bytes, .slice Y.ao Y.kl Y.kc, .int .i64 Y.torn, .int .i64 Y.bytes]] w fun e w' => DoP B C p last (cs + 1) x g0 g1 w e w' := by
  by_cases n0 : k = 0
  · subst n0; exact do0_any B C p last cs x g0 g1 d i m s raw _ _ _ _ _ _ w h hs hc
  by_cases n1 : k = 1
  · subst n1; exact do1_any B C p last cs x g0 g1 d i m s raw _ _ _ _ _ _ w h hs hc
  by_cases n2 : k = 2
  · subst n2; exact do2_any B C p last cs x g0 g1 d i m s raw _ _ _ _ _ _ w h hs hc
  by_cases n5 : k = 5
  · subst n5; exact do5_any B C p last cs x g0 g1 d i m s raw _ _ _ _ _ _ w h hc
  by_cases n6 : k = 6
  · subst n6; exact do6_any B C p last cs x g0 g1 d i m s raw _ _ _ _ _ _ w h hc
  by_cases n8 : k = 8
  · subst n8; exact do8_any B C p last cs x g0 g1 d i m s raw _ _ _ _ _ _ w h hs
  by_cases n9 : k = 9
  · subst n9; exact do9_any B C p last cs x g0 g1 d i m s raw _ _ _ _ _ _ w h hs
  by_cases n10 : k = 10
  · subst n10; exact do10_any B C p last cs x g0 g1 d i m s raw _ _ _ _ _ _ w h
  by_cases n11 : k = 11
  · subst n11; exact do11_any B C p last cs x g0 g1 d i m s raw _ _ _ _ _ _ w h
  by_cases n12 : k = 12
  · subst n12; exact do12_any B C p last cs x g0 g1 d i m s raw X Y w h hX hY
  exact doE_any B C p last cs x g0 g1 k d i m s raw _ _ _ _ _ _ w h hc (by simpa using n0) (by simpa using n1) (by simpa using n2) (by simpa using n5) (by simpa using n6) (by simpa using h7) (by simpa using n8) (by simpa using n9) (by simpa using n10) (by simpa using n11) (by simpa using n12)
end Go.Proofs.Ytjmginkkjkbpoaa
