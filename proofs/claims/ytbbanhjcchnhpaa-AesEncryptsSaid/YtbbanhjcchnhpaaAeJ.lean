/- Package aes (cellaret): read. -/
import Derived.Test.YtbbanhjcchnhpaaAeI
import Derived.Laws.CopyOwn
namespace Go.Proofs.Ytbbanhjcchnhpaa
open Go.RowKit Go.Deep
set_option linter.unusedVariables false
set_option linter.unusedSimpArgs false
/-- A text's first k bytes, and bytes 0. -/
def mR (l : List UInt8) (k j : Nat) : UInt8 := if j < k then bAt l j else 0
theorem two16 (l : List UInt8) (w : World) : ∃ w2, Hid ((w.alloc (.cells #[.int .u8 0, .int .u8 0, .int .u8 0, .int .u8 0, .int .u8 0, .int .u8 0, .int .u8 0, .int .u8 0, .int .u8 0, .int .u8 0, .int .u8 0, .int .u8 0, .int .u8 0, .int .u8 0, .int .u8 0, .int .u8 0] 82)).alloc (.cells #[.int .u8 0, .int .u8 0, .int .u8 0, .int .u8 0, .int .u8 0, .int .u8 0, .int .u8 0, .int .u8 0, .int .u8 0, .int .u8 0, .int .u8 0, .int .u8 0, .int .u8 0, .int .u8 0, .int .u8 0, .int .u8 0] 82) = w2) ∧ Hid (w2.heap[w.heap.size]? = some (.cells #[.int .u8 0, .int .u8 0, .int .u8 0, .int .u8 0, .int .u8 0, .int .u8 0, .int .u8 0, .int .u8 0, .int .u8 0, .int .u8 0, .int .u8 0, .int .u8 0, .int .u8 0, .int .u8 0, .int .u8 0, .int .u8 0] 82 (0, 0))) ∧ Hid (w2.rowIs (w.heap.size + 1) 82 16 (fun j => .int .u8 ((mR l 0 j).toNat : Int))) ∧ Below w.heap.size w w2 ∧ w2.heap.size = w.heap.size + 1 + 1 := by
  have h1 := heap_alloc_new w (.cells #[.int .u8 0, .int .u8 0, .int .u8 0, .int .u8 0, .int .u8 0, .int .u8 0, .int .u8 0, .int .u8 0, .int .u8 0, .int .u8 0, .int .u8 0, .int .u8 0, .int .u8 0, .int .u8 0, .int .u8 0, .int .u8 0] 82)
  have hs : (w.alloc (.cells #[.int .u8 0, .int .u8 0, .int .u8 0, .int .u8 0, .int .u8 0, .int .u8 0, .int .u8 0, .int .u8 0, .int .u8 0, .int .u8 0, .int .u8 0, .int .u8 0, .int .u8 0, .int .u8 0, .int .u8 0, .int .u8 0] 82)).heap.size = w.heap.size + 1 := by simp
  have h2 := heap_alloc_new (w.alloc (.cells #[.int .u8 0, .int .u8 0, .int .u8 0, .int .u8 0, .int .u8 0, .int .u8 0, .int .u8 0, .int .u8 0, .int .u8 0, .int .u8 0, .int .u8 0, .int .u8 0, .int .u8 0, .int .u8 0, .int .u8 0, .int .u8 0] 82)) (.cells #[.int .u8 0, .int .u8 0, .int .u8 0, .int .u8 0, .int .u8 0, .int .u8 0, .int .u8 0, .int .u8 0, .int .u8 0, .int .u8 0, .int .u8 0, .int .u8 0, .int .u8 0, .int .u8 0, .int .u8 0, .int .u8 0] 82)
  rw [hs] at h2
  have B : Below (w.heap.size + 1) (w.alloc (.cells #[.int .u8 0, .int .u8 0, .int .u8 0, .int .u8 0, .int .u8 0, .int .u8 0, .int .u8 0, .int .u8 0, .int .u8 0, .int .u8 0, .int .u8 0, .int .u8 0, .int .u8 0, .int .u8 0, .int .u8 0, .int .u8 0] 82)) ((w.alloc (.cells #[.int .u8 0, .int .u8 0, .int .u8 0, .int .u8 0, .int .u8 0, .int .u8 0, .int .u8 0, .int .u8 0, .int .u8 0, .int .u8 0, .int .u8 0, .int .u8 0, .int .u8 0, .int .u8 0, .int .u8 0, .int .u8 0] 82)).alloc (.cells #[.int .u8 0, .int .u8 0, .int .u8 0, .int .u8 0, .int .u8 0, .int .u8 0, .int .u8 0, .int .u8 0, .int .u8 0, .int .u8 0, .int .u8 0, .int .u8 0, .int .u8 0, .int .u8 0, .int .u8 0, .int .u8 0] 82)) := (Below.refl _ _).alloc (by rw [hs]; exact Nat.le_refl _) _
  refine ⟨_, Lib.hid rfl, Lib.hid ((B.block w.heap.size (Nat.lt_succ_self _)).trans h1), Lib.hid ⟨_, h2, rfl, fun i hi => ?_⟩, ((Below.refl _ _).alloc (Nat.le_refl _) _).trans (B.mono (Nat.le_succ _)), by simp⟩
  rcases (show i = 0 ∨ i = 1 ∨ i = 2 ∨ i = 3 ∨ i = 4 ∨ i = 5 ∨ i = 6 ∨ i = 7 ∨ i = 8 ∨ i = 9 ∨ i = 10 ∨ i = 11 ∨ i = 12 ∨ i = 13 ∨ i = 14 ∨ i = 15 by omega) with rfl | rfl | rfl | rfl | rfl | rfl | rfl | rfl | rfl | rfl | rfl | rfl | rfl | rfl | rfl | rfl <;> rfl
theorem bAt_get (s : ByteArray) (j : Nat) (h : j < s.size) : s[j] = bAt s.data.toList j := by
  unfold bAt
  rw [List.getElem?_eq_getElem (show j < s.data.toList.length from h)]
  rfl
set_option maxRecDepth 100000 in
set_option maxHeartbeats 2000000 in
theorem read_any (s : ByteArray) (w : World) (hs : s.size = 16) :
    Calls Try.prog 54 #[.string s] w fun e w' => e = .returned (.agg (st16 (bAt s.data.toList))) ∧ Below w.heap.size w w' := by
  have hss : (s.size : Int) = 16 := by omega
  go_enter Try.func54, Try.ntmps54
  go_wp2_with fail
  obtain ⟨w2, HW2, HR0, HR1, b2, hs2⟩ := two16 s.data.toList w
  rw [HW2.out]
  clear HW2
  go_loopw [5] (fun x wi => ∃ k : Nat, x = .int .i64 (k : Int) ∧ k ≤ 16 ∧ Hid (wi.rowIs (w.heap.size + 1) 82 16 (fun j => .int .u8 ((mR s.data.toList k j).toNat : Int))) ∧ Hid (Below (w.heap.size + 1) w2 wi)) (fun x _ => 16 - (intOf x).toNat)
  case atStart => exact ⟨0, rfl, by omega, HR1, Lib.hid (Below.refl _ _)⟩
  clear HR1
  case round =>
    obtain ⟨k, rfl, hk, HR, HB⟩ := hrel
    by_cases hlt : k < 16
    · as_aux_lemma =>
      have hli : (k : Int) < 16 := by omega
      have c0 := World.rowIs.cell HR.out (i := k) hlt
      have f0 := World.rowIs.frozen HR.out k
      go_wp2_with fail
      go_roundw
      case rel => exact ⟨k + 1, by go_num, by omega, Lib.hid (by
        refine World.rowIs.congr (World.rowIs.set HR.out k _) fun j hj => ?_
        unfold mR
        by_cases e : j = k
        · subst e
          rw [if_pos rfl, if_pos (show j < j + 1 by omega)]
          exact congrArg (fun b : UInt8 => Value.int .u8 (b.toNat : Int)) (bAt_get s j (by omega))
        · rw [if_neg e]
          by_cases h : j < k
          · rw [if_pos h, if_pos (show j < k + 1 by omega)]
          · rw [if_neg h, if_neg (show ¬ j < k + 1 by omega)]), Lib.hid (HB.out.setCell (p := ⟨_, k, none⟩) (Nat.le_refl _) _)⟩
      case measure => simp [intOf]; omega
    · as_aux_lemma =>
      obtain rfl : k = 16 := by omega
      rw [show ((16 : Nat) : Int) = 16 from rfl]
      have hr1 := st16_row (f := bAt s.data.toList) (World.rowIs.congr HR.out fun j hj => by unfold mR; rw [if_pos hj])
      have hr0 := (HB.out.block w.heap.size (Nat.lt_succ_self _)).trans HR0.out
      have BW := b2.trans (HB.out.mono (Nat.le_succ _))
      go_wp2_with (first | (refine wpList_load_row rfl 82 _ rfl (w.heap.size + 1) rfl _ _ _ _ hr1 Try.underlying82 rfl (by rw [st16_size]; kernel_rfl) ?_) | (refine wpList_store_row rfl _ _ _ rfl w.heap.size (st16 (bAt s.data.toList)) rfl rfl 82 _ hr0 (by rw [st16_size]; kernel_rfl) (by rw [st16_size]; rfl) (st16_one _) ?_))
      refine bodyPost_ret_by (results_cell_row rfl _ _ w.heap.size 82 (st16 (bAt s.data.toList)) (0, 0) _ rfl (setRow_heap _ _ _ (st16 (bAt s.data.toList)) 82 (0, 0) hr0) Try.underlying82 rfl (by rw [st16_size]; kernel_rfl)) rfl ⟨rfl, below_setRow BW (Nat.le_refl _) _⟩
end Go.Proofs.Ytbbanhjcchnhpaa
