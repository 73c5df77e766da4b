/- Package aes (cellaret): the contract of (*Key).image. -/
import Derived.Test.YtbbanhjcchnhpaaAeC
namespace Go.Proofs.Ytbbanhjcchnhpaa
open Go.RowKit Go.Deep
set_option linter.unusedVariables false
set_option linter.unusedSimpArgs false
/-- A byte's image, as a byte; whose it is. -/
def bx (b : UInt8) : UInt8 := UInt8.ofNat (boxN b.toNat)
def ux (b : UInt8) : UInt8 := UInt8.ofNat (unboxN b.toNat)
theorem bx_nat (b : UInt8) : (bx b).toNat = boxN b.toNat := by
  unfold bx; rw [UInt8.toNat_ofNat']; exact Nat.mod_eq_of_lt (boxN_lt _ b.toNat_lt)
theorem ux_nat (b : UInt8) : (ux b).toNat = unboxN b.toNat := by
  unfold ux; rw [UInt8.toNat_ofNat']; exact Nat.mod_eq_of_lt (unboxN_lt _ b.toNat_lt)
theorem ux_bx (b : UInt8) : ux (bx b) = b := by rw [← UInt8.toNat_inj, ux_nat, bx_nat, unbox_box _ b.toNat_lt]
theorem bx_ux (b : UInt8) : bx (ux b) = b := by rw [← UInt8.toNat_inj, bx_nat, ux_nat, box_unbox _ b.toNat_lt]
/-- A word's image. -/
def imgW (x : UInt32) : UInt32 := be4 (bx (byW x 0)) (bx (byW x 1)) (bx (byW x 2)) (bx (byW x 3))
/-- The images that a key has. -/
def BoxAt (w : World) (g : Nat) : Prop := ∀ b : UInt8, w.cell? ⟨g, 60 + b.toNat, none⟩ = some (.int .u8 ((bx b).toNat : Int))
def UnAt (w : World) (g : Nat) : Prop := ∀ b : UInt8, w.cell? ⟨g, 316 + b.toNat, none⟩ = some (.int .u8 ((ux b).toNat : Int))
def mI (y : Nat → UInt8) (k j : Nat) : UInt8 := if j < k then bx (y j) else y j
@[reducible] def r4v (f : Nat → UInt8) : Array Value := #[.int .u8 ((f 0).toNat : Int), .int .u8 ((f 1).toNat : Int), .int .u8 ((f 2).toNat : Int), .int .u8 ((f 3).toNat : Int)]
theorem index_b4 (y : Nat → UInt8) : (∀ w, (Instr.index 76 (b4v (y 0) (y 1) (y 2) (y 3)) (.int .i64 0)).run Try.prog w = .ok (.int .u8 ((y 0).toNat : Int)) w) ∧ (∀ w, (Instr.index 76 (b4v (y 0) (y 1) (y 2) (y 3)) (.int .i64 1)).run Try.prog w = .ok (.int .u8 ((y 1).toNat : Int)) w) ∧ (∀ w, (Instr.index 76 (b4v (y 0) (y 1) (y 2) (y 3)) (.int .i64 2)).run Try.prog w = .ok (.int .u8 ((y 2).toNat : Int)) w) ∧ (∀ w, (Instr.index 76 (b4v (y 0) (y 1) (y 2) (y 3)) (.int .i64 3)).run Try.prog w = .ok (.int .u8 ((y 3).toNat : Int)) w) :=
  ⟨fun _ => by kernel_rfl, fun _ => by kernel_rfl, fun _ => by kernel_rfl, fun _ => by kernel_rfl⟩
set_option maxRecDepth 100000 in
set_option maxHeartbeats 2000000 in
theorem image_any (x : UInt32) (g : Nat) (w : World) (hB : Hid (BoxAt w g)) (hg : g < w.heap.size) :
    Calls Try.prog 50 #[.pointer (some ⟨g, 0, none⟩), wv x] w fun e w' => e = .returned (wv (imgW x)) ∧ Below w.heap.size w w' := by
  unfold imgW
  have CB := Lib.hid (fun w => bytesOf_any x w)
  obtain ⟨y, hy⟩ : ∃ y, Hid (byW x = y) := ⟨_, Lib.hid rfl⟩
  rw [hy.out] at CB ⊢
  clear hy
  have CW := Lib.hid (fun w => word_any (bx (y 0)) (bx (y 1)) (bx (y 2)) (bx (y 3)) w)
  go_enter Try.func50, Try.ntmps50
  go_wp2_with fail
  refine (CB.out _).mono ?_
  rintro e w1 ⟨rfl, b1⟩
  clear CB
  go_wp2_with fail
  obtain ⟨w2, HW2, hr2, b2, hs2⟩ : ∃ w2, Hid (w1.alloc (.cells (r4v y) 76) = w2) ∧ w2.heap[w1.heap.size]? = some (.cells (r4v y) 76 (0, 0)) ∧ Below w1.heap.size w1 w2 ∧ w1.heap.size < w2.heap.size := ⟨_, Lib.hid rfl, heap_alloc_new _ _, (Below.refl _ _).alloc (Nat.le_refl _) _, by simp⟩
  have hBx2 : Hid (BoxAt w2 g) := Lib.hid (fun b => (b2.cell (p := ⟨g, 60 + b.toNat, none⟩) (Nat.lt_of_lt_of_le hg b1.size)).trans ((b1.cell (p := ⟨g, 60 + b.toNat, none⟩) hg).trans (hB.out b)))
  have hgq : g < w1.heap.size := Nat.lt_of_lt_of_le hg b1.size
  have B2 : Below w.heap.size w w2 := b1.trans (b2.mono b1.size)
  have hq1 : w.heap.size ≤ w1.heap.size := b1.size
  rw [HW2.out]
  clear HW2 b2 b1 hB
  generalize w1.heap.size = q at *
  go_loopw [11] (fun i wi => ∃ k : Nat, i = .int .i64 (k : Int) ∧ k ≤ 4 ∧ Hid (wi.heap[q]? = some (.cells (r4v (mI y k)) 76 (0, 0))) ∧ Hid (Below q w2 wi)) (fun i _ => 4 - (intOf i).toNat)
  case atStart => exact ⟨0, rfl, by omega, Lib.hid hr2, Lib.hid (Below.refl _ _)⟩
  case round =>
    obtain ⟨k, rfl, hk, HR, HB⟩ := hrel
    have HBX : Hid (∀ b : UInt8, wr.cell? ⟨g, 60 + b.toNat, none⟩ = some (.int .u8 ((bx b).toNat : Int))) := Lib.hid (fun b => (HB.out.cell (p := ⟨g, 60 + b.toNat, none⟩) hgq).trans (hBx2.out b))
    have HF : Hid (∀ j, wr.frozen? ⟨q, j, none⟩ = false) := Lib.hid (fun j => frozen_of_row _ q j _ _ HR.out)
    have HC : Hid (wr.cell? ⟨q, 0, none⟩ = some (.int .u8 ((mI y k 0).toNat : Int)) ∧ wr.cell? ⟨q, 1, none⟩ = some (.int .u8 ((mI y k 1).toNat : Int)) ∧ wr.cell? ⟨q, 2, none⟩ = some (.int .u8 ((mI y k 2).toNat : Int)) ∧ wr.cell? ⟨q, 3, none⟩ = some (.int .u8 ((mI y k 3).toNat : Int))) := Lib.hid ⟨cell_of_row _ _ 0 _ _ _ HR.out, cell_of_row _ _ 1 _ _ _ HR.out, cell_of_row _ _ 2 _ _ _ HR.out, cell_of_row _ _ 3 _ _ _ HR.out⟩
    rcases (show k = 0 ∨ k = 1 ∨ k = 2 ∨ k = 3 ∨ k = 4 by omega) with rfl | rfl | rfl | rfl | rfl
    · as_aux_lemma =>
      obtain ⟨c0, c1, c2, c3⟩ := HC.out
      have cb := HBX.out (y 0)
      have hyb := (y 0).toNat_lt
      have hyi : ((y 0).toNat : Int) < 256 := by omega
      have hfz := HF.out 0
      have hix := (index_b4 y).1
      rw [show ((0 : Nat) : Int) = 0 from rfl]
      go_wp2_with fail
      go_roundw
      case rel => exact ⟨0 + 1, by first | rfl | go_num, by omega, Lib.hid (heap_setCell_same _ _ 0 _ _ _ HR.out), Lib.hid (HB.out.setCell (p := ⟨q, 0, none⟩) (Nat.le_refl _) _)⟩
      case measure => simp [intOf]
    · as_aux_lemma =>
      obtain ⟨c0, c1, c2, c3⟩ := HC.out
      have cb := HBX.out (y 1)
      have hyb := (y 1).toNat_lt
      have hyi : ((y 1).toNat : Int) < 256 := by omega
      have hfz := HF.out 1
      have hix := (index_b4 y).2.1
      rw [show ((1 : Nat) : Int) = 1 from rfl]
      go_wp2_with fail
      go_roundw
      case rel => exact ⟨1 + 1, by first | rfl | go_num, by omega, Lib.hid (heap_setCell_same _ _ 1 _ _ _ HR.out), Lib.hid (HB.out.setCell (p := ⟨q, 1, none⟩) (Nat.le_refl _) _)⟩
      case measure => simp [intOf]
    · as_aux_lemma =>
      obtain ⟨c0, c1, c2, c3⟩ := HC.out
      have cb := HBX.out (y 2)
      have hyb := (y 2).toNat_lt
      have hyi : ((y 2).toNat : Int) < 256 := by omega
      have hfz := HF.out 2
      have hix := (index_b4 y).2.2.1
      rw [show ((2 : Nat) : Int) = 2 from rfl]
      go_wp2_with fail
      go_roundw
      case rel => exact ⟨2 + 1, by first | rfl | go_num, by omega, Lib.hid (heap_setCell_same _ _ 2 _ _ _ HR.out), Lib.hid (HB.out.setCell (p := ⟨q, 2, none⟩) (Nat.le_refl _) _)⟩
      case measure => simp [intOf]
    · as_aux_lemma =>
      obtain ⟨c0, c1, c2, c3⟩ := HC.out
      have cb := HBX.out (y 3)
      have hyb := (y 3).toNat_lt
      have hyi : ((y 3).toNat : Int) < 256 := by omega
      have hfz := HF.out 3
      have hix := (index_b4 y).2.2.2
      rw [show ((3 : Nat) : Int) = 3 from rfl]
      go_wp2_with fail
      go_roundw
      case rel => exact ⟨3 + 1, by first | rfl | go_num, by omega, Lib.hid (heap_setCell_same _ _ 3 _ _ _ HR.out), Lib.hid (HB.out.setCell (p := ⟨q, 3, none⟩) (Nat.le_refl _) _)⟩
      case measure => simp [intOf]
    · as_aux_lemma =>
      obtain ⟨c0, c1, c2, c3⟩ := HC.out
      have BW := B2.trans (HB.out.mono hq1)
      go_wp2_with fail

      refine (CW.out _).mono ?_
      rintro e w9 ⟨rfl, b9⟩
      go_wp2_with fail
      go_ret
      exact ⟨rfl, BW.trans (b9.mono BW.size)⟩
end Go.Proofs.Ytbbanhjcchnhpaa
