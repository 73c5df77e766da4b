/- Package view: blocks of an image; looker. -/
import Derived.Test.YtapmnacggpcffaaVwA
namespace Go.Proofs.Ytapmnacggpcffaa
open Go.RowKit Go.Deep
set_option linter.unusedVariables false
set_option linter.unusedSimpArgs false
/-- A block of an image. -/
def blkP (s : ByteArray) (i : Nat) : ByteArray := s.extract (i * 64) ((i + 1) * 64)
theorem blkP_size {s : ByteArray} (h : s.size = 18432) {i : Nat} (hi : i < 288) : (blkP s i).size = 64 := by
  unfold blkP
  rw [ByteArray.size_extract]
  omega
set_option maxRecDepth 100000 in
set_option maxHeartbeats 2000000 in
theorem block_any (s : ByteArray) (i : Nat) (w : World) (hs : s.size = 18432) (hi : i < 288) : Calls Try.prog 20 #[.string s, .int .i64 (i : Int)] w fun e w' => e = .returned (.string (blkP s i)) ∧ w = w' := by
  have e1 : ((i : Int) * 64).toNat = i * 64 := by omega
  have e2 : (((i : Int) + 1) * 64).toNat = (i + 1) * 64 := by omega
  have HE : Hid (s.extract ((i : Int) * 64).toNat (((i : Int) + 1) * 64).toNat = blkP s i) := Lib.hid (by rw [e1, e2]; rfl)
  have h0 : (0 : Int) ≤ (i : Int) * 64 := by omega
  have h1 : (i : Int) * 64 ≤ ((i : Int) + 1) * 64 := by omega
  have h2 : ((i : Int) + 1) * 64 ≤ (s.size : Int) := by omega
  clear e1 e2
  go_enter Try.func20, Try.ntmps20
  go_wp2_with fail
  go_ret
  exact ⟨by rw [← HE.out]; rfl, rfl⟩
theorem blk_slice (x : ByteArray) (k : Nat) : x.extract (64 * k) (64 * k + 64) = blkP x k := by
  unfold blkP
  rw [show 64 * k = k * 64 by omega, show k * 64 + 64 = (k + 1) * 64 by omega]
set_option maxRecDepth 100000 in
set_option maxHeartbeats 2000000 in
theorem rblock_any (s : ByteArray) (i : Nat) (w : World) (hs : s.size = 18432) (hi : i < 288) : Calls Try.prog 12 #[.string s, .int .i64 (i : Int)] w fun e w' => e = .returned (.string (blkP s i)) ∧ w = w' := by
  have e1 : ((64 : Int) * (i : Int)).toNat = 64 * i := by omega
  have e2 : ((64 : Int) * (i : Int) + 64).toNat = 64 * i + 64 := by omega
  have h0 : (0 : Int) ≤ 64 * (i : Int) := by omega
  have h1 : (64 : Int) * (i : Int) ≤ 64 * (i : Int) + 64 := by omega
  have h2 : (64 : Int) * (i : Int) + 64 ≤ (s.size : Int) := by omega
  have h3 : (0 : Int) ≤ 64 * (i : Int) + 64 := by omega
  have hwr : IntKind.i64.wrap (64 * (i : Int)) = 64 * (i : Int) := by rw [IntKind.wrap_i64]; omega
  have hwr2 : IntKind.i64.wrap (64 * (i : Int) + 64) = 64 * (i : Int) + 64 := by rw [IntKind.wrap_i64]; omega
  have HE := Lib.hid (blk_slice s i)
  go_enter Try.func12, Try.ntmps12
  go_wp2_with fail
  go_ret
  exact ⟨by rw [← HE.out]; rfl, rfl⟩
theorem isImage_any (s : ByteArray) (w : World) : Calls Try.prog 15 #[.string s] w fun e w' => e = .returned (.bool (decide (s.size = 18432))) ∧ w = w' := by
  go_enter Try.func15, Try.ntmps15
  go_wp2_with fail
  go_ret
  refine ⟨?_, rfl⟩
  have e : ((s.size : Int) == 18432) = decide (s.size = 18432) := by
    by_cases h : s.size = 18432
    · rw [decide_eq_true h]; simp; omega
    · rw [decide_eq_false h]; simp; omega
  exact congrArg (fun b => Ending.returned (.bool b)) e
def z64 : ByteArray := ⟨(List.replicate 64 (0 : UInt8)).toArray⟩
/-- The boxes of a looker. -/
def LkAt (w : World) (B b1 b2 : Nat) (s : ByteArray) : Prop := B ≤ b1 ∧ B ≤ b2 ∧ b1 < w.heap.size ∧ b2 < w.heap.size ∧ w.cell? ⟨b1, 0, none⟩ = some (.string s) ∧ w.cell? ⟨b2, 0, none⟩ = some (.string z64)
theorem LkAt.below {w w' : World} {B b1 b2 N : Nat} {s : ByteArray} (h : LkAt w B b1 b2 s) (b : Below N w w') (h1 : b1 < N) (h2 : b2 < N) : LkAt w' B b1 b2 s := ⟨h.1, h.2.1, Nat.lt_of_lt_of_le h.2.2.1 b.size, Nat.lt_of_lt_of_le h.2.2.2.1 b.size, (b.cell (p := ⟨b1, 0, none⟩) h1).trans h.2.2.2.2.1, (b.cell (p := ⟨b2, 0, none⟩) h2).trans h.2.2.2.2.2⟩
set_option maxRecDepth 100000 in
set_option maxHeartbeats 2000000 in
theorem looker_any (s : ByteArray) (w : World) : Calls Try.prog 16 #[.string s] w fun e w' => ∃ b1 b2, e = .returned (.func (.func 21) #[] #[.pointer (some ⟨b1, 0, none⟩), .pointer (some ⟨b2, 0, none⟩)]) ∧ LkAt w' w.heap.size b1 b2 s ∧ Below w.heap.size w w' := by
  obtain ⟨w1, hw1⟩ : ∃ w1, w.alloc (.cells #[.string s] 9) = w1 := ⟨_, rfl⟩
  have B1 : Below w.heap.size w w1 := by rw [← hw1]; exact (Below.refl _ _).alloc (Nat.le_refl _) _
  have x0 : w1.cell? ⟨w.heap.size, 0, none⟩ = some (.string s) := by rw [← hw1]; exact World.cell?_alloc_at _ _ _ _ rfl
  have s1 : w1.heap.size = w.heap.size + 1 := by rw [← hw1]; simp
  have hmk := run_make_row' (P := Try.prog) 43 5 (.int .u8 0) 1 Try.underlying43 info_u8z rfl .i64 .i64 64 (by omega) (by omega) w1
  have hcv := conv_row (P := Try.prog) (cap := 64) (W := 64) (dst := 9) (f := fun _ => 0) Try.underlying43 Try.underlying5 Try.underlying9 (World.rowIs_made w1 (.int .u8 0) 64 5) (Nat.le_refl _)
  rw [replicate_mapz] at hcv
  rw [show (⟨(List.replicate 64 (0 : UInt8)).toArray⟩ : ByteArray) = z64 from rfl] at hcv
  obtain ⟨w2, hw2⟩ : ∃ w2, w1.alloc (.cells (madeCells #[.int .u8 0] 64) 5) = w2 := ⟨_, rfl⟩
  rw [hw2] at hmk hcv
  have B2 : Below w1.heap.size w1 w2 := by rw [← hw2]; exact (Below.refl _ _).alloc (Nat.le_refl _) _
  have s2 : w2.heap.size = w.heap.size + 1 + 1 := by rw [← hw2]; simp [s1]
  have x0 := (B2.cell (p := ⟨w.heap.size, 0, none⟩) (by show w.heap.size < _; omega)).trans x0
  have y0 : (w2.alloc (.cells #[.string z64] 9)).cell? ⟨w.heap.size + 1 + 1, 0, none⟩ = some (.string z64) := by rw [← s2]; exact World.cell?_alloc_at _ _ _ _ rfl
  have B3 : Below w2.heap.size w2 (w2.alloc (.cells #[.string z64] 9)) := (Below.refl _ _).alloc (Nat.le_refl _) _
  have HL : Hid (LkAt (w2.alloc (.cells #[.string z64] 9)) w.heap.size w.heap.size (w.heap.size + 1 + 1) s) := Lib.hid ⟨Nat.le_refl _, by omega, by simp; omega, by simp; omega, (B3.cell (p := ⟨w.heap.size, 0, none⟩) (by show w.heap.size < _; omega)).trans x0, y0⟩
  have HB : Hid (Below w.heap.size w (w2.alloc (.cells #[.string z64] 9))) := Lib.hid ((B1.trans (B2.mono B1.size)).trans (B3.mono (by omega)))
  have HW1 := Lib.hid hw1
  have e1 : (64 : Int) = ((64 : Nat) : Int) := rfl
  rw [← e1] at hmk
  rw [s1] at hmk hcv
  clear hw1 B1 B2 B3 x0 y0 e1
  generalize z64 = Z at *
  go_enter Try.func16, Try.ntmps16
  go_upto_region 1 with fail
  rw [HW1.out]
  clear HW1
  go_wp2_with fail
  go_ret
  exact ⟨w.heap.size, w.heap.size + 1 + 1, by first | rfl | simp [s2], HL.out, HB.out⟩
end Go.Proofs.Ytapmnacggpcffaa
