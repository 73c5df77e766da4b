/- Package aes (cellaret): text. -/
import Derived.Test.YtbbanhjcchnhpaaAeJ
import Derived.Test.YtbbanhjcchnhpaaLibB
namespace Go.Proofs.Ytbbanhjcchnhpaa
open Go.RowKit Go.Deep
set_option linter.unusedVariables false
set_option linter.unusedSimpArgs false
theorem make16k (w : World) : (Instr.makeSlice 77 (.int .i64 16) (.int .i64 16)).run Try.prog w = .ok (.slice (some ⟨w.heap.size, 0, none⟩) 16 16) (w.alloc (.cells (madeCells #[.int .u8 0] 16) 5)) :=
  run_make_row' (P := Try.prog) 77 5 (.int .u8 0) 1 Try.underlying77 (by kernel_rfl) rfl .i64 .i64 16 (by omega) (by omega) (w := w)
theorem index_st (f : Nat → UInt8) (i : Nat) (hi : i < 16) (w : World) : (Instr.index 82 (.agg (st16 f)) (.int .i64 (i : Int))).run Try.prog w = .ok (.int .u8 ((f i).toNat : Int)) w := by
  have hsz : ∀ w, (sizeOf 66).run Try.prog w = .ok 1 w := fun w => by kernel_rfl
  have px : ∀ w, (part 66 (st16 f) (i * 1)).run Try.prog w = .ok (.int .u8 ((f i).toNat : Int)) w := fun w => by
    simp [part, isAgg, run_underlying Try.underlying66, st16, hi]
  have h2 : (0 : Int) ≤ (i : Int) ∧ (i : Int) < ((16 : Nat) : Int) := ⟨by omega, by omega⟩
  unfold Instr.index
  simp only [asIntOf, Sem.run_bind, Sem.run_pure, Result.andThen_ok, run_underlying Try.underlying82, if_pos h2, hsz, Int.toNat_natCast, px]
def tx (f : Nat → UInt8) (k j : Nat) : UInt8 := if j < k then f j else 0
set_option maxRecDepth 100000 in
set_option maxHeartbeats 2000000 in
theorem text_any (f : Nat → UInt8) (w : World) :
    Calls Try.prog 60 #[.agg (st16 f)] w fun e w' => e = .returned (.string ⟨((List.range 16).map f).toArray⟩) ∧ Below w.heap.size w w' := by
  have hmk := make16k
  have hb1 := heap_alloc_new w (.cells (st16 f) 82)
  have hz := st16_size f
  go_enter Try.func60, Try.ntmps60
  go_wp2_with (refine wpList_load_row rfl 82 _ rfl w.heap.size rfl _ _ _ _ (((Below.refl (w.heap.size + 1) (w.alloc (.cells (st16 f) 82))).alloc (by simp) _).block w.heap.size (Nat.lt_succ_self _) |>.trans hb1) Try.underlying82 rfl (by rw [st16_size]; kernel_rfl) ?_)
  obtain ⟨w2, HW2, HR, B2⟩ : ∃ w2, Hid ((w.alloc (.cells (st16 f) 82)).alloc (.cells (madeCells #[.int .u8 0] 16) 5) = w2) ∧ Hid (w2.rowIs (w.heap.size + 1) 5 16 (fun j => .int .u8 ((tx f 0 j).toNat : Int))) ∧ Below w.heap.size w w2 :=
    ⟨_, Lib.hid rfl, Lib.hid (by have := World.rowIs_made (w.alloc (.cells (st16 f) 82)) (.int .u8 0) 16 5; rw [show (w.alloc (.cells (st16 f) 82)).heap.size = w.heap.size + 1 by simp] at this; exact this), ((Below.refl _ _).alloc (Nat.le_refl _) _).alloc (by simp) _⟩
  rw [HW2.out]
  clear HW2 hb1
  go_loopw [8] (fun x wi => ∃ k : Nat, x = .int .i64 (k : Int) ∧ k ≤ 16 ∧ Hid (wi.rowIs (w.heap.size + 1) 5 16 (fun j => .int .u8 ((tx f k j).toNat : Int))) ∧ Hid (Below (w.heap.size + 1) w2 wi)) (fun x _ => 16 - (intOf x).toNat)
  case atStart => exact ⟨0, rfl, by omega, HR, Lib.hid (Below.refl _ _)⟩
  clear HR
  case round =>
    obtain ⟨k, rfl, hk, HR, HB⟩ := hrel
    by_cases hlt : k < 16
    · as_aux_lemma =>
      have hli : (k : Int) < 16 := by omega
      have hix := index_st f k hlt
      have c0 := World.rowIs.cell HR.out (i := k) hlt
      have f0 := World.rowIs.frozen HR.out k
      go_wp2_with fail
      go_roundw
      case rel => exact ⟨k + 1, by go_num, by omega, Lib.hid (by
        refine World.rowIs.congr (World.rowIs.set HR.out k _) fun j hj => ?_
        unfold tx
        by_cases e : j = k
        · subst e
          rw [if_pos rfl, if_pos (show j < j + 1 by omega)]
        · rw [if_neg e]
          by_cases h : j < k
          · rw [if_pos h, if_pos (show j < k + 1 by omega)]
          · rw [if_neg h, if_neg (show ¬ j < k + 1 by omega)]), Lib.hid (HB.out.setCell (p := ⟨_, k, none⟩) (Nat.le_refl _) _)⟩
      case measure => simp [intOf]; omega
    · as_aux_lemma =>
      obtain rfl : k = 16 := by omega
      rw [show ((16 : Nat) : Int) = 16 from rfl]
      have hcv := conv_row (P := Try.prog) (cap := 16) (W := 16) (dst := 9) (f := f) Try.underlying77 Try.underlying5 Try.underlying9 (World.rowIs.congr HR.out fun j hj => by unfold tx; rw [if_pos hj]) (Nat.le_refl _)
      have BW := B2.trans (HB.out.mono (Nat.le_succ _))
      go_wp2_with fail
      go_ret
      exact ⟨rfl, BW⟩
end Go.Proofs.Ytbbanhjcchnhpaa
