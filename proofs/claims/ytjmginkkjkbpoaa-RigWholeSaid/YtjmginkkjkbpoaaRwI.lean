/- The reference's rig: New. The law's helpers: text, may, block. -/
import Derived.Test.YtjmginkkjkbpoaaRwH
import Derived.Test.YtjmginkkjkbpoaaRwG
import Derived.Test.YtjmginkkjkbpoaaRiN
namespace Go.Proofs.Ytjmginkkjkbpoaa
open Go.RowKit Go.Deep
set_option linter.unusedVariables false
set_option linter.unusedSimpArgs false
theorem DAt.base {w : World} {B C g : Nat} (h : DAt w B g) (hc : C ≤ B) : DAt w C g := by
  obtain ⟨h0, n, s, b, hg, h1, h2, h3⟩ := h
  exact ⟨Nat.le_trans hc h0, n, s, b, hg, h1.base hc, h2.base hc, h3.base hc⟩
set_option maxRecDepth 100000 in
set_option maxHeartbeats 4000000 in
theorem xNew_any (w : World) : Calls Try.prog 8 #[] w fun e w' => ∃ x g0 g1 S, e = .returned (.pointer (some ⟨x, 0, none⟩)) ∧ XAt w' w.heap.size x g0 g1 S ∧ Below w.heap.size w w' := by
  have PN := Lib.hid dvNew_any
  have PZ := Lib.hid (fun w => zeros_any 96 w (by omega))
  rw [show ((96 : Nat) : Int) = 96 from rfl] at PZ
  generalize (⟨(List.replicate 96 (0 : UInt8)).toArray⟩ : ByteArray) = zt at *
  go_enter Try.func8, Try.ntmps8
  go_wp2_with fail
  refine (PN.out _).mono ?_
  rintro e w1 ⟨g0, rfl, d1, b1⟩
  have HD1 := Lib.hid d1
  have HB1 := Lib.hid b1
  clear d1 b1
  go_wp2_with fail
  refine (PN.out _).mono ?_
  rintro e w2 ⟨g1, rfl, d2, b2⟩
  have hne : g0 ≠ g1 := by have := HD1.out.lt; have := d2.1; omega
  have HD2 := Lib.hid (d2.base HB1.out.size)
  have HD12 := Lib.hid (HD1.out.below b2)
  have HB2 := Lib.hid (HB1.out.trans (b2.mono HB1.out.size))
  clear d2 b2 HD1 HB1
  go_wp2_with fail
  refine (PZ.out _).mono ?_
  rintro e w3 ⟨rfl, b3⟩
  have HB3 := Lib.hid (HB2.out.trans (b3.mono HB2.out.size))
  have HD3 := Lib.hid (HD12.out.below b3)
  have HE3 := Lib.hid (HD2.out.below b3)
  clear b3 HB2 HD2 HD12
  obtain ⟨w4, HW4, HX4, HB4⟩ : ∃ w4, Hid (w3.alloc (.cells (xrA g0 g1 ⟨zt, false, 0, 0, 0, 0, 0, 0, ⟨#[]⟩⟩) 64) = w4) ∧ Hid (XAt w4 w.heap.size w3.heap.size g0 g1 ⟨zt, false, 0, 0, 0, 0, 0, 0, ⟨#[]⟩⟩) ∧ Hid (Below w.heap.size w w4) :=
    ⟨_, Lib.hid rfl, Lib.hid ⟨heap_alloc_new _ _, HB3.out.size, HD3.out.below ((Below.refl _ _).alloc (Nat.le_refl _) _), HE3.out.below ((Below.refl _ _).alloc (Nat.le_refl _) _), hne, Or.inl (Int.le_refl _)⟩, Lib.hid (HB3.out.alloc HB3.out.size _)⟩
  unfold xrA at HW4
  go_wp2_with fail
  rw [HW4.out]
  go_ret
  exact ⟨_, g0, g1, _, rfl, HX4.out, HB4.out⟩
def actV (k d i n : Int) (s : ByteArray) (raw : Bool) (x0 x1 x2 y0 y1 y2 : Value) : Array Value := #[.int .i64 k, .int .i64 d, .int .i64 i, .int .i64 n, .string s, .bool raw, x0, x1, x2, y0, y1, y2]
def textB (s : ByteArray) (raw : Bool) (n : Nat) : ByteArray := if raw = true ∨ n < s.size then s else ⟨(zpadL s.data.toList n).toArray⟩
set_option maxRecDepth 100000 in
set_option maxHeartbeats 2000000 in
theorem text12_any (k d i m : Int) (s : ByteArray) (raw : Bool) (x0 x1 x2 y0 y1 y2 : Value) (n : Nat) (w : World) (hs : s.size < 300) (hn : n ≤ 1000) : Calls Try.prog 10 #[.agg #[.int .i64 k, .int .i64 d, .int .i64 i, .int .i64 m, .string s, .bool raw, x0, x1, x2, y0, y1, y2], .int .i64 (n : Int)] w fun e w' => e = .returned (.string (textB s raw n)) ∧ Below w.heap.size w w' := by
  have PF := Lib.hid (fun w => full_any s n w (by omega) (by omega))
  unfold textB
  cases raw with
  | true =>
    rw [if_pos (Or.inl rfl)]
    generalize (⟨(zpadL s.data.toList n).toArray⟩ : ByteArray) = zt at *
    go_enter Try.func10, Try.ntmps10
    go_wp2_with fail
    go_ret
    exact ⟨rfl, (Below.refl _ _).alloc (Nat.le_refl _) _⟩
  | false =>
    by_cases h : n < s.size
    · rw [if_pos (Or.inr h)]
      have hi : (n : Int) < (s.size : Int) := by omega
      generalize (⟨(zpadL s.data.toList n).toArray⟩ : ByteArray) = zt at *
      go_enter Try.func10, Try.ntmps10
      go_wp2_with fail
      go_ret
      exact ⟨rfl, (Below.refl _ _).alloc (Nat.le_refl _) _⟩
    · rw [if_neg (by simp; omega)]
      have hi : ¬ (n : Int) < (s.size : Int) := by omega
      generalize (⟨(zpadL s.data.toList n).toArray⟩ : ByteArray) = zt at *
      go_enter Try.func10, Try.ntmps10
      go_wp2_with fail
      refine (PF.out _).mono ?_
      rintro e w1 ⟨rfl, b1⟩
      go_wp2_with fail
      go_ret
      exact ⟨rfl, ((Below.refl _ _).alloc (Nat.le_refl _) _).trans (b1.mono (by simp))⟩
set_option maxRecDepth 100000 in
set_option maxHeartbeats 2000000 in
theorem may12_any (k d i m : Int) (s : ByteArray) (raw : Bool) (x0 x1 x2 y0 y1 y2 : Value) (w : World) : Calls Try.prog 57 #[.agg #[.int .i64 k, .int .i64 d, .int .i64 i, .int .i64 m, .string s, .bool raw, x0, x1, x2, y0, y1, y2]] w fun e w' => e = .returned (.int .i64 (rbE d i)) ∧ Below w.heap.size w w' := by
  have HZ : Hid (∀ z, rbE d i = z → rbE d i = z) := Lib.hid (fun z h => h)
  by_cases h0 : d < 0
  · rw [show rbE d i = 2 by unfold rbE; rw [if_neg (by omega)]]
    go_enter Try.func57, Try.ntmps57
    go_wp2_with fail
    go_ret
    exact ⟨rfl, (Below.refl _ _).alloc (Nat.le_refl _) _⟩
  · by_cases h1 : 1 < d
    · rw [show rbE d i = 2 by unfold rbE; rw [if_neg (by omega)]]
      go_enter Try.func57, Try.ntmps57
      go_wp2_with fail
      go_ret
      exact ⟨rfl, (Below.refl _ _).alloc (Nat.le_refl _) _⟩
    · by_cases h2 : i < 0
      · rw [show rbE d i = 3 by unfold rbE; rw [if_pos (by omega), if_pos (by omega)]]
        go_enter Try.func57, Try.ntmps57
        go_wp2_with fail
        go_ret
        exact ⟨rfl, (Below.refl _ _).alloc (Nat.le_refl _) _⟩
      · by_cases h3 : 287 < i
        · rw [show rbE d i = 3 by unfold rbE; rw [if_pos (by omega), if_pos (by omega)]]
          go_enter Try.func57, Try.ntmps57
          go_wp2_with fail
          go_ret
          exact ⟨rfl, (Below.refl _ _).alloc (Nat.le_refl _) _⟩
        · rw [show rbE d i = 0 by unfold rbE; rw [if_pos (by omega), if_neg (by omega)]]
          go_enter Try.func57, Try.ntmps57
          go_wp2_with fail
          go_ret
          exact ⟨rfl, (Below.refl _ _).alloc (Nat.le_refl _) _⟩
end Go.Proofs.Ytjmginkkjkbpoaa
