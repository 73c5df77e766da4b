/- The reference of package aes (cellaret): shifted, added. -/
import Derived.Test.YtbbanhjcchnhpaaAgA
namespace Go.Proofs.Ytbbanhjcchnhpaa
open Go.RowKit Go.Deep
set_option linter.unusedVariables false
set_option linter.unusedSimpArgs false
theorem makeI16 (w : World) : (Instr.makeSlice 35 (.int .i64 16) (.int .i64 16)).run Try.prog w = .ok (.slice (some ⟨w.heap.size, 0, none⟩) 16 16) (w.alloc (.cells (madeCells #[.int .i64 0] 16) 3)) :=
  run_make_row' (P := Try.prog) 35 3 (.int .i64 0) 8 Try.underlying35 (by kernel_rfl) rfl .i64 .i64 16 (by omega) (by omega) (w := w)
/-- What a row of 16 numbers holds when its first t columns' bytes are set. -/
def oF (h : Nat → Nat) (t j : Nat) : Nat := if j < t then h j else 0
theorem oF_step (h : Nat → Nat) (c r : Nat) (hc : c < 4) (hr : r < 4) (j : Nat) : oF h (4 * c + (r + 1)) j = if j = r + 4 * c then h (r + 4 * c) else oF h (4 * c + r) j := by
  unfold oF
  by_cases e : j = r + 4 * c
  · rw [if_pos e, if_pos (show j < 4 * c + (r + 1) by omega), e]
  · rw [if_neg e]
    by_cases q : j < 4 * c + r
    · rw [if_pos q, if_pos (show j < 4 * c + (r + 1) by omega)]
    · rw [if_neg q, if_neg (show ¬ j < 4 * c + (r + 1) by omega)]
theorem made16 (h : Nat → Nat) (w : World) : ∃ w2, Hid (w.alloc (.cells (madeCells #[.int .i64 0] 16) 3) = w2) ∧ Hid (w2.rowIs w.heap.size 3 16 (fun j => .int .i64 (oF h (4 * 0 + 0) j : Int))) ∧ Hid (Below w.heap.size w w2) :=
  ⟨_, Lib.hid rfl, Lib.hid (World.rowIs_made w (.int .i64 0) 16 3), Lib.hid ((Below.refl _ _).alloc (Nat.le_refl _) _)⟩
set_option maxRecDepth 100000 in
set_option maxHeartbeats 3000000 in
theorem shifted_any (f : Nat → Nat) (sb sc xb xc : Nat) (w : World) (hf : ∀ j, j < 16 → f j < 256) (hS : Hid (IAt w sb 16 f)) (hX : Hid (IAt w xb 256 boxN)) :
    Calls Try.prog 63 #[.slice (some ⟨sb, 0, none⟩) 16 sc, .slice (some ⟨xb, 0, none⟩) 256 xc] w fun e w' => e = .returned (.slice (some ⟨w.heap.size, 0, none⟩) 16 16) ∧ IAt w' w.heap.size 16 (fun j => boxN (f (srcS 1 j))) ∧ Below w.heap.size w w' := by
  have hmk := makeI16
  obtain ⟨w2, HW2, HR2, B2⟩ := made16 (fun j => boxN (f (srcS 1 j))) w
  go_enter Try.func63, Try.ntmps63
  go_wp2_with fail
  rw [HW2.out]
  have lts := hS.out.lt
  have ltx := hX.out.lt
  have HS := Lib.hid (hS.out.below B2.out)
  have HX := Lib.hid (hX.out.below B2.out)
  clear HW2 hS hX hmk
  obtain ⟨q, hq⟩ : ∃ q, Hid (w.heap.size = q) := ⟨_, Lib.hid rfl⟩
  rw [hq.out] at HR2 lts ltx
  rw [show (w.heap.size) = q from hq.out]
  go_loopw [6] (fun x wi => ∃ c : Nat, x = .int .i64 (c : Int) ∧ c ≤ 4 ∧ Hid (wi.rowIs q 3 16 (fun j => .int .i64 (oF (fun j => boxN (f (srcS 1 j))) (4 * c + 0) j : Int))) ∧ Hid (Below q w2 wi)) (fun x _ => 4 - (intOf x).toNat)
  case atStart => exact ⟨0, rfl, by omega, HR2, Lib.hid (Below.refl _ _)⟩
  clear HR2
  case round =>
    obtain ⟨c, rfl, hc, HR, HB⟩ := hrel
    by_cases hlc : c < 4
    · as_aux_lemma =>
      have hci : (c : Int) < 4 := by omega
      go_wp2_with fail
      go_loopw [7] (fun x wi => ∃ r : Nat, x = .int .i64 (r : Int) ∧ r ≤ 4 ∧ Hid (wi.rowIs q 3 16 (fun j => .int .i64 (oF (fun j => boxN (f (srcS 1 j))) (4 * c + r) j : Int))) ∧ Hid (Below q w2 wi)) (fun x _ => 4 - (intOf x).toNat)
      case atStart => exact ⟨0, rfl, by omega, HR, HB⟩
      clear HR HB
      case round =>
        obtain ⟨r, rfl, hr, HR, HB⟩ := hrel
        by_cases hlr : r < 4
        · as_aux_lemma =>
          have hri : (r : Int) < 4 := by omega
          obtain ⟨n, hn⟩ : ∃ n, Hid ((c + r) % 4 = n) := ⟨_, Lib.hid rfl⟩
          have hn4 : n < 4 := by rw [← hn.out]; exact Nat.mod_lt _ (by decide)
          have hcm : ((c : Int) + (r : Int)) % 4 = (n : Int) := by have := hn.out; omega
          have hct : ((c : Int) + (r : Int)).tmod 4 = (n : Int) := by rw [Int.tmod_eq_emod_of_nonneg (by omega)]; exact hcm
          have x1 : ((r : Int) + 4 * (n : Int)).toNat = r + 4 * n := by omega
          have x2 : ((r : Int) + 4 * (c : Int)).toNat = r + 4 * c := by omega
          have x3 : (r : Int) + 4 * (n : Int) < 16 := by omega
          have x4 : (r : Int) + 4 * (c : Int) < 16 := by omega
          have x5 : (0 : Int) ≤ (r : Int) + 4 * (n : Int) := by omega
          have x6 : (0 : Int) ≤ (r : Int) + 4 * (c : Int) := by omega
          have y2 : IntKind.i64.wrap ((c : Int) + r) = c + r := IntWalk.i64_in _ (by omega)
          have y3 : IntKind.i64.wrap (4 * (n : Int)) = 4 * n := IntWalk.i64_in _ (by omega)
          have y4 : IntKind.i64.wrap ((r : Int) + 4 * n) = r + 4 * n := IntWalk.i64_in _ (by omega)
          have y5 : IntKind.i64.wrap (4 * (c : Int)) = 4 * c := IntWalk.i64_in _ (by omega)
          have y6 : IntKind.i64.wrap ((r : Int) + 4 * c) = r + 4 * c := IntWalk.i64_in _ (by omega)
          have c0 := (HS.out.under lts HB.out).cell (r + 4 * n) (by omega)
          have hfb := hf (r + 4 * n) (by omega)
          have c1 := (HX.out.under ltx HB.out).cell (f (r + 4 * n)) hfb
          have HST : Hid (∀ j, oF (fun j => boxN (f (srcS 1 j))) (4 * c + (r + 1)) j = if j = r + 4 * c then boxN (f (r + 4 * n)) else oF (fun j => boxN (f (srcS 1 j))) (4 * c + r) j) := Lib.hid (fun j => by
            rw [oF_step _ c r hlc hlr j]
            have : srcS 1 (r + 4 * c) = r + 4 * n := by
              unfold srcS
              rw [show (r + 4 * c) % 4 = r by omega, show (r + 4 * c) / 4 = c by omega, Nat.one_mul, hn.out]
            simp only [this])
          generalize f (r + 4 * n) = fv at c0 c1 hfb HST
          have z1 : (fv : Int) < 256 := by omega
          generalize boxN fv = bv at c1 HST
          have d0 := World.rowIs.cell HR.out (i := r + 4 * c) (by omega)
          have f0 := World.rowIs.frozen HR.out (r + 4 * c)
          go_wp2_with fail
          go_roundw
          case rel => exact ⟨r + 1, by go_num, by omega, Lib.hid (by
            refine World.rowIs.congr (World.rowIs.set HR.out (r + 4 * c) (.int .i64 (bv : Int))) fun j hj => ?_
            rw [HST.out j]
            by_cases e : j = r + 4 * c
            · rw [if_pos e, if_pos e]
            · rw [if_neg e, if_neg e]), Lib.hid (HB.out.setCell (p := ⟨q, r + 4 * c, none⟩) (Nat.le_refl _) _)⟩
          case measure => simp [intOf]; omega
        · as_aux_lemma =>
          obtain rfl : r = 4 := by omega
          rw [show ((4 : Nat) : Int) = 4 from rfl]
          go_wp2_with fail
          go_roundw
          case rel => exact ⟨c + 1, by go_num, by omega, Lib.hid (by rw [show 4 * (c + 1) + 0 = 4 * c + 4 by omega]; exact HR.out), HB⟩
          case measure => simp [intOf]; omega
    · as_aux_lemma =>
      obtain rfl : c = 4 := by omega
      rw [show ((4 : Nat) : Int) = 4 from rfl]
      go_wp2_with fail
      go_ret
      refine ⟨by rw [hq.out]; rfl, ?_, ?_⟩
      · rw [hq.out]; exact (IAt.of_row HR.out).congr fun j hj => by unfold oF; rw [if_pos (show j < 4 * 4 + 0 by omega)]
      · exact B2.out.trans (by rw [hq.out]; exact HB.out)
end Go.Proofs.Ytbbanhjcchnhpaa
