/- The law RigWhole: what its walk is told. -/
import Derived.Test.YtjmginkkjkbpoaaRwS
namespace Go.Proofs.Ytjmginkkjkbpoaa
open Go.RowKit Go.Deep
set_option linter.unusedVariables false
set_option linter.unusedSimpArgs false
theorem zsB_eq (m : Nat) : zsB m = ⟨(List.replicate m (0 : UInt8)).toArray⟩ := by
  have : zsB m = ⟨((zsB m).data.toList).toArray⟩ := rfl
  rw [this, zsB_list]
/-- Both new rigs. -/
theorem Bo.start {B : Nat} {w w' : World} {p : RgP} {x g0 g1 : Nat} {S : XrS} (h : RgAt B w p rgS0 zeroB zeroB) (hB : B ≤ w.heap.size) (b : Below w.heap.size w w') (hx : XAt w' w.heap.size x g0 g1 S) : Bo B w.heap.size w' p ⟨(List.replicate 96 (0 : UInt8)).toArray⟩ 0 x g0 g1 := by
  have hg : p.g1 < w.heap.size := block_lt_of_cell h.d1.hd
  refine ⟨⟨rgS0, zeroB, zeroB, h.below b, zsB_eq 96, Or.inl rfl, ⟨Int.le_refl _, Int.le_refl _⟩, zeroB_tx, zeroB_tx⟩, ⟨S, hx⟩, hg, b.size, hB⟩
section
variable {B C cs ds x g0 g1 : Nat} {w0 w w' : World} {p : RgP} {last last' : ByteArray}
/-- Both rigs, and nothing below changed. -/
structure Bp (B C : Nat) (w0 w : World) (p : RgP) (last : ByteArray) (cs x g0 g1 : Nat) : Prop where
  bo : Bo B C w p last cs x g0 g1
  lo : Below B w0 w
theorem Bp.below (h : Bp B C w0 w p last cs x g0 g1) (b : Below w.heap.size w w') : Bp B C w0 w' p last cs x g0 g1 := ⟨h.bo.below b, h.lo.trans (b.mono h.bo.bw)⟩
theorem Bp.rig (h : Bp B C w0 w p last cs x g0 g1) (r : RgOK B w' p last' ds) (k : Kq B p.l w w') : Bp B C w0 w' p last' ds x g0 g1 := ⟨h.bo.rig r k, h.lo.trans k.below⟩
theorem Bp.more (h : Bp B C w0 w p last cs x g0 g1) (hc : cs ≤ ds) : Bp B C w0 w p last ds x g0 g1 := ⟨h.bo.more hc, h.lo⟩
theorem Bp.reg (h : Bp B C w0 w p last cs x g0 g1) (hc : cs ≤ 1000) : Calls Try.prog 13 #[.pointer (some ⟨p.R, 0, none⟩)] w fun e w' => ∃ (s : ByteArray) (z : Int), e = .returned (.tuple #[.string s, .int .i64 z]) ∧ (z = 0 → s = last) ∧ Bp B C w0 w' p last (cs + 1) x g0 g1 := by
  refine (gReg h.bo.rg h.bo.bw hc).mono ?_
  rintro e w' ⟨s, z, h1, h2, r, k⟩
  exact ⟨s, z, h1, h2, h.rig r k⟩
theorem Bp.set (s : ByteArray) (h : Bp B C w0 w p last cs x g0 g1) (hc : cs ≤ 1000) : Calls Try.prog 11 #[.pointer (some ⟨p.R, 0, none⟩), .string s] w fun e w' => ∃ (z : Int), e = .returned (.int .i64 z) ∧ Bp B C w0 w' p (if z = 0 then s else last) (cs + 1) x g0 g1 := by
  refine (gSet s h.bo.rg h.bo.bw hc).mono ?_
  rintro e w' ⟨z, h1, r, k⟩
  exact ⟨z, h1, h.rig r k⟩
theorem Bp.do (k d i m : Int) (s : ByteArray) (raw : Bool) (X Y : LsV) (h : Bp B C w0 w p last cs x g0 g1) (hs : s.size < 300) (hc : cs ≤ 1000) (hX : LsB w0 B X) (hY : LsB w0 B Y) (h7 : k ≠ 7) : Calls Try.prog 12 #[.pointer (some ⟨p.R, 0, none⟩), .pointer (some ⟨x, 0, none⟩), .agg #[.int .i64 k, .int .i64 d, .int .i64 i, .int .i64 m, .string s, .bool raw, .slice X.ao X.kl X.kc, .int .i64 X.torn, .int .i64 X.bytes, .slice Y.ao Y.kl Y.kc, .int .i64 Y.torn, .int .i64 Y.bytes]] w fun e w' => ∃ b : Bool, e = .returned (.bool b) ∧ Bp B C w0 w' p last (cs + 1) x g0 g1 := by
  refine (do_any B C p last cs x g0 g1 k d i m s raw X Y w h.bo hs hc (hX.below h.lo) (hY.below h.lo) h7).mono ?_
  rintro e w' ⟨b, h1, h2, h3⟩
  exact ⟨b, h1, h2, h.lo.trans h3⟩
/-- Behind a crash that loses nothing the register is told. -/
theorem Bp.crash (h : Bp B C w0 w p last cs x g0 g1) (hc : cs ≤ 1000) : Calls Try.prog 14 #[.pointer (some ⟨p.R, 0, none⟩), .agg #[.slice none 0 0, .int .i64 0, .int .i64 0], .agg #[.slice none 0 0, .int .i64 0, .int .i64 0]] w fun e w' => e = .returned (.int .i64 0) ∧ Below B w0 w' ∧ Calls Try.prog 13 #[.pointer (some ⟨p.R, 0, none⟩)] w' fun e w'' => e = .returned (.tuple #[.string last, .int .i64 0]) ∧ Below B w0 w'' := by
  obtain ⟨S, c0, c1, h1, h2, h3, h4, h5, h6⟩ := h.bo.rg
  refine (rigCrash_any B p S c0 c1 lossN lossN w h1 h.bo.bw h5 h6 (lossN_at _) (lossN_at _) (lossN_off _) (lossN_off _) (lossN_off _)).mono ?_
  rintro e w' ⟨rfl, r, q⟩
  have b := h.lo.trans q.below
  refine ⟨rfl, b, (gLast S _ _ r h2 h4 hc (Nat.le_trans h.bo.bw q.below.size)).mono ?_⟩
  rintro e w'' ⟨rfl, q2⟩
  exact ⟨rfl, b.trans q2.below⟩
end
end Go.Proofs.Ytjmginkkjkbpoaa
