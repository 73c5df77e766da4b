/- Package dev (cellaret): Image. -/
import Derived.Test.YtefbfpolfbdfgaaDvG
import Derived.Test.YtefbfpolfbdfgaaBld
namespace Go.Proofs.Ytefbfpolfbdfgaa
open Go.RowKit Go.Deep
set_option linter.unusedVariables false
set_option linter.unusedSimpArgs false
/-- What the first k blocks have, one behind the other. -/
def catB (bs : Nat → Bk) : Nat → List UInt8
  | 0 => []
  | k + 1 => catB bs k ++ (bs k).now.data.toList
theorem catB_len (bs : Nat → Bk) (h : ∀ i, (bs i).now.size ≤ 64) : ∀ k, (catB bs k).length ≤ 64 * k
  | 0 => Nat.le_refl _
  | k + 1 => by
    have := catB_len bs h k
    have h2 := h k
    have h3 : (bs k).now.data.toList.length = (bs k).now.size := rfl
    unfold catB
    rw [List.length_append, h3]
    omega
/-- A device whose blocks lie below a base stays where what is below the base stays. -/
theorem DvAt.under {w w' : World} {g rb n B : Nat} {bs : Nat → Bk} (h : DvAt w g rb n bs) (hb : Below B w w') (hg : g < B) (hr : rb < B) : DvAt w' g rb n bs :=
  ⟨(hb.cell (p := ⟨g, 0, none⟩) hg).trans h.hd, World.rowIs.of_block h.row (hb.block rb hr), h.ne⟩
theorem bld_keep {B b : Nat} {l : List Value} {w w' : World} (h : Lib.IsBuilder 58 5 B b l w) (hb : Below w.heap.size w w') : Lib.IsBuilder 58 5 B b l w' := by
  have K : ∀ p, Lib.BuilderAt 58 5 B b p l w → Lib.BuilderAt 58 5 B b p l w' := by
    rintro p ⟨hB, v, hbk, hown, hne⟩
    exact ⟨hB, v, (hb.block b (Array.getElem?_eq_some_iff.1 hbk).1).trans hbk, own_belowD hown hb, hne⟩
  exact h.imp (K _) (K _)
theorem bld_drew {B b : Nat} {l : List Value} {w : World} (h : Lib.IsBuilder 58 5 B b l w) : Lib.IsBuilder 58 5 B b l w.drew := bld_keep h (Below.refl _ _).drew
set_option maxRecDepth 100000 in
set_option maxHeartbeats 2000000 in
theorem image_okD (g rb n : Nat) (bs : Nat → Bk) (w : World) (hD : DvAt w g rb n bs) (hn : n ≤ 512) (hs : ∀ i, (bs i).now.size ≤ 64) : Calls Try.prog 8 #[.pointer (some ⟨g, 0, none⟩)] w fun e w' => e = .returned (.string ⟨(catB bs n).toArray⟩) ∧ Below w.heap.size w w' := by
  have HL := Lib.hid (catB_len bs hs)
  have HS := Lib.hid hs
  have HD := Lib.hid hD
  have HG : Hid (g < w.heap.size ∧ rb < w.heap.size) := Lib.hid ⟨block_lt_of_cell hD.hd, World.rowIs.lt hD.row⟩
  have hc := hD.hd
  clear hs hD
  go_enter Try.func8, Try.ntmps8
  go_upto_region 4 with fail
  obtain ⟨w1, HW⟩ : ∃ w1, Hid (w.alloc (.cells #[.pointer none, .slice none 0 0] 58) = w1) := ⟨_, Lib.hid rfl⟩
  have HB0 : Hid (Below w.heap.size w w1) := Lib.hid (by rw [← HW.out]; exact (Below.refl _ _).alloc (Nat.le_refl _) _)
  have HI0 : Hid (Lib.IsBuilder 58 5 w.heap.size w.heap.size [] w1) := Lib.hid (by rw [← HW.out]; exact Lib.fresh_isBuilder _ _ w)
  have HD1 : Hid (DvAt w1 g rb n bs) := Lib.hid (HD.out.below HB0.out)
  rw [HW.out]
  have hc1 := HD1.out.hd
  clear hc HW HD
  go_wp2_with fail
  clear hc1
  go_loopw [5, 13, 19] (fun x5 x13 x19 wi => ∃ k : Nat, x13 = .int .i64 (k : Int) ∧ k ≤ n ∧ Hid (DvAt wi g rb n bs) ∧ Hid (Lib.IsBuilder 58 5 w.heap.size w.heap.size (Lib.byteCells (catB bs k)) wi) ∧ Hid (Below w.heap.size w wi)) (fun _ x _ _ => n - (intOf x).toNat)
  case atStart => exact ⟨0, rfl, by omega, HD1, HI0, HB0⟩
  clear HD1 HI0 HB0
  case round =>
    obtain ⟨k, rfl, hk, HD, HI, HB⟩ := hrel
    by_cases hlt : k < n
    · have hli : (k : Int) < n := by omega
      have hc := HD.out.hd
      have c0 := HD.out.now k hlt
      have c1 := HD.out.safe k hlt
      have c2 := HD.out.wr k hlt
      have hnow := HS.out k
      generalize hz : (bs k).now = z at *
      go_upto_region 7 with fail
      have hn0 := heap_alloc_new wr (.cells #[.string z, .string (bs k).safe, .bool (bs k).wr] 53)
      obtain ⟨w2, HW, HB2⟩ : ∃ w2, Hid (wr.alloc (.cells #[.string z, .string (bs k).safe, .bool (bs k).wr] 53) = w2) ∧ Hid (Below wr.heap.size wr w2) := ⟨_, Lib.hid rfl, Lib.hid ((Below.refl _ _).alloc (Nat.le_refl _) _)⟩
      rw [HW.out] at hn0
      have hcz : w2.cell? ⟨wr.heap.size, 0, none⟩ = some (.string z) := cell_of_row _ _ 0 _ _ _ hn0
      have HZ := Lib.hid hz
      have HLT : Hid (wr.heap.size < w2.heap.size) := Lib.hid (Array.getElem?_eq_some_iff.1 hn0).1
      have HI2 := Lib.hid (bld_keep HI.out HB2.out)
      have HD2 := Lib.hid (HD.out.below HB2.out)
      have HBB := Lib.hid (HB.out.trans (HB2.out.mono HB.out.size))
      rw [HW.out]
      clear hn0 hc c0 c1 c2 hz HW HI HD
      go_wp2_with fail
      refine (bld_write w.heap.size w.heap.size _ z _ HI2.out (by rw [Lib.byteCells_length]; have := HL.out k; omega) HBB.out.size).mono ?_
      rintro e w3 ⟨rfl, hI3, b3⟩
      have HI3 : Hid (Lib.IsBuilder 58 5 w.heap.size w.heap.size (Lib.byteCells (catB bs (k + 1))) w3) := Lib.hid (by
        show Lib.IsBuilder _ _ _ _ (Lib.byteCells (catB bs k ++ (bs k).now.data.toList)) w3
        rw [Lib.byteCells_append, HZ.out]
        exact Or.inr hI3)
      have HD3 := Lib.hid (HD2.out.under b3 HG.out.1 HG.out.2)
      have HB3 := Lib.hid (HBB.out.trans b3)
      clear hI3 b3 HI2 HD2 HBB hcz HZ HLT HB HB2 hnow
      go_wp2_with fail
      go_roundw
      case rel => exact ⟨k + 1, by go_num, by omega, HD3, HI3, HB3⟩
      case measure => simp [intOf]; omega
    · obtain rfl : k = n := by omega
      go_wp2_with fail
      refine (Try.Builder_String_any w.heap.size w.heap.size _ _ HI.out HB.out.size).mono ?_
      rintro e w2 ⟨rfl, b2⟩
      go_wp2_with fail
      go_ret
      exact ⟨rfl, HB.out.trans b2⟩
end Go.Proofs.Ytefbfpolfbdfgaa
