/- Package aes (cellaret): a state as a value. -/
import Derived.Test.YtbbanhjcchnhpaaMb
import Derived.Laws.CopyOwn
import Derived.Test.YtbbanhjcchnhpaaLibB
namespace Go.Proofs.Ytbbanhjcchnhpaa
open Go.RowKit Go.Deep
set_option linter.unusedVariables false
set_option linter.unusedSimpArgs false
/-- A state's cells. -/
def st16 (f : Nat → UInt8) : Array Value := ((List.range 16).map fun j => Value.int .u8 ((f j).toNat : Int)).toArray
theorem st16_size (f : Nat → UInt8) : (st16 f).size = 16 := by
  unfold st16
  rw [List.size_toArray, List.length_map, List.length_range]
theorem st16_get (f : Nat → UInt8) (i : Nat) (hi : i < 16) : (st16 f)[i]? = some (.int .u8 ((f i).toNat : Int)) := by
  unfold st16
  rw [List.getElem?_toArray, List.getElem?_map, List.getElem?_range hi]
  rfl
theorem st16_row {w : World} {g : Nat} {t : TypeId} {f : Nat → UInt8} (h : w.rowIs g t 16 (fun j => .int .u8 ((f j).toNat : Int))) : w.heap[g]? = some (.cells (st16 f) t (0, 0)) := by
  obtain ⟨c, h1, h2, h3⟩ := h
  have hc : c = st16 f := by
    apply Array.ext_getElem?
    intro i
    by_cases hi : i < 16
    · rw [h3 i hi, st16_get f i hi]
    · rw [Array.getElem?_eq_none (by omega), Array.getElem?_eq_none (by rw [st16_size]; omega)]
  rw [← hc]; exact h1
theorem st16_one (f : Nat → UInt8) : (st16 f).all (·.oneCell') = true := by
  rw [Array.all_eq_true_iff_forall_mem]
  intro x hx
  unfold st16 at hx
  simp only [List.mem_toArray, List.mem_map] at hx
  obtain ⟨j, _, rfl⟩ := hx
  rfl
end Go.Proofs.Ytbbanhjcchnhpaa

/- Package aes (cellaret): read. -/
namespace Go.Proofs.Ytbbanhjcchnhpaa
open Go.RowKit Go.Deep
set_option linter.unusedVariables false
set_option linter.unusedSimpArgs false
/-- A text's first k bytes, and bytes 0. -/
def mR (l : List UInt8) (k j : Nat) : UInt8 := if j < k then bAt l j else 0
theorem two16 (l : List UInt8) (w : World) : ∃ w2, Hid ((w.alloc (.cells #[.int .u8 0, .int .u8 0, .int .u8 0, .int .u8 0, .int .u8 0, .int .u8 0, .int .u8 0, .int .u8 0, .int .u8 0, .int .u8 0, .int .u8 0, .int .u8 0, .int .u8 0, .int .u8 0, .int .u8 0, .int .u8 0] 82)).alloc (.cells #[.int .u8 0, .int .u8 0, .int .u8 0, .int .u8 0, .int .u8 0, .int .u8 0, .int .u8 0, .int .u8 0, .int .u8 0, .int .u8 0, .int .u8 0, .int .u8 0, .int .u8 0, .int .u8 0, .int .u8 0, .int .u8 0] 82) = w2) ∧ Hid (w2.heap[w.heap.size]? = some (.cells #[.int .u8 0, .int .u8 0, .int .u8 0, .int .u8 0, .int .u8 0, .int .u8 0, .int .u8 0, .int .u8 0, .int .u8 0, .int .u8 0, .int .u8 0, .int .u8 0, .int .u8 0, .int .u8 0, .int .u8 0, .int .u8 0] 82 (0, 0))) ∧ Hid (w2.rowIs (w.heap.size + 1) 82 16 (fun j => .int .u8 ((mR l 0 j).toNat : Int))) ∧ Below w.heap.size w w2 ∧ w2.heap.size = w.heap.size + 1 + 1 := by
  have h1 := heap_alloc_new w (.cells #[.int .u8 0, .int .u8 0, .int .u8 0, .int .u8 0, .int .u8 0, .int .u8 0, .int .u8 0, .int .u8 0, .int .u8 0, .int .u8 0, .int .u8 0, .int .u8 0, .int .u8 0, .int .u8 0, .int .u8 0, .int .u8 0] 82)
  have hs : (w.alloc (.cells #[.int .u8 0, .int .u8 0, .int .u8 0, .int .u8 0, .int .u8 0, .int .u8 0, .int .u8 0, .int .u8 0, .int .u8 0, .int .u8 0, .int .u8 0, .int .u8 0, .int .u8 0, .int .u8 0, .int .u8 0, .int .u8 0] 82)).heap.size = w.heap.size + 1 := by simp
  have h2 := heap_alloc_new (w.alloc (.cells #[.int .u8 0, .int .u8 0, .int .u8 0, .int .u8 0, .int .u8 0, .int .u8 0, .int .u8 0, .int .u8 0, .int .u8 0, .int .u8 0, .int .u8 0, .int .u8 0, .int .u8 0, .int .u8 0, .int .u8 0, .int .u8 0] 82)) (.cells #[.int .u8 0, .int .u8 0, .int .u8 0, .int .u8 0, .int .u8 0, .int .u8 0, .int .u8 0, .int .u8 0, .int .u8 0, .int .u8 0, .int .u8 0, .int .u8 0, .int .u8 0, .int .u8 0, .int .u8 0, .int .u8 0] 82)
  rw [hs] at h2
  have B : Below (w.heap.size + 1) (w.alloc (.cells #[.int .u8 0, .int .u8 0, .int .u8 0, .int .u8 0, .int .u8 0, .int .u8 0, .int .u8 0, .int .u8 0, .int .u8 0, .int .u8 0, .int .u8 0, .int .u8 0, .int .u8 0, .int .u8 0, .int .u8 0, .int .u8 0] 82)) ((w.alloc (.cells #[.int .u8 0, .int .u8 0, .int .u8 0, .int .u8 0, .int .u8 0, .int .u8 0, .int .u8 0, .int .u8 0, .int .u8 0, .int .u8 0, .int .u8 0, .int .u8 0, .int .u8 0, .int .u8 0, .int .u8 0, .int .u8 0] 82)).alloc (.cells #[.int .u8 0, .int .u8 0, .int .u8 0, .int .u8 0, .int .u8 0, .int .u8 0, .int .u8 0, .int .u8 0, .int .u8 0, .int .u8 0, .int .u8 0, .int .u8 0, .int .u8 0, .int .u8 0, .int .u8 0, .int .u8 0] 82)) := (Below.refl _ _).alloc (by rw [hs]; exact Nat.le_refl _) _
  refine ⟨_, Lib.hid rfl, Lib.hid ((B.block w.heap.size (Nat.lt_succ_self _)).trans h1), Lib.hid ⟨_, h2, rfl, fun i hi => ?_⟩, ((Below.refl _ _).alloc (Nat.le_refl _) _).trans (B.mono (Nat.le_succ _)), by simp⟩
  rcases (show i = 0 ∨ i = 1 ∨ i = 2 ∨ i = 3 ∨ i = 4 ∨ i = 5 ∨ i = 6 ∨ i = 7 ∨ i = 8 ∨ i = 9 ∨ i = 10 ∨ i = 11 ∨ i = 12 ∨ i = 13 ∨ i = 14 ∨ i = 15 by omega) with rfl | rfl | rfl | rfl | rfl | rfl | rfl | rfl | rfl | rfl | rfl | rfl | rfl | rfl | rfl | rfl <;> rfl
theorem bAt_get (s : ByteArray) (j : Nat) (h : j < s.size) : s[j] = bAt s.data.toList j := by
  unfold bAt
  rw [List.getElem?_eq_getElem (show j < s.data.toList.length from h)]
  rfl
set_option maxRecDepth 100000 in
set_option maxHeartbeats 2000000 in
theorem read_any (s : ByteArray) (w : World) (hs : s.size = 16) :
    Calls Try.prog 54 #[.string s] w fun e w' => e = .returned (.agg (st16 (bAt s.data.toList))) ∧ Below w.heap.size w w' := by
  have hss : (s.size : Int) = 16 := by omega
  go_enter Try.func54, Try.ntmps54
  go_wp2_with fail
  obtain ⟨w2, HW2, HR0, HR1, b2, hs2⟩ := two16 s.data.toList w
  rw [HW2.out]
  clear HW2
  go_loopw [5] (fun x wi => ∃ k : Nat, x = .int .i64 (k : Int) ∧ k ≤ 16 ∧ Hid (wi.rowIs (w.heap.size + 1) 82 16 (fun j => .int .u8 ((mR s.data.toList k j).toNat : Int))) ∧ Hid (Below (w.heap.size + 1) w2 wi)) (fun x _ => 16 - (intOf x).toNat)
  case atStart => exact ⟨0, rfl, by omega, HR1, Lib.hid (Below.refl _ _)⟩
  clear HR1
  case round =>
    obtain ⟨k, rfl, hk, HR, HB⟩ := hrel
    by_cases hlt : k < 16
    · as_aux_lemma =>
      have hli : (k : Int) < 16 := by omega
      have c0 := World.rowIs.cell HR.out (i := k) hlt
      have f0 := World.rowIs.frozen HR.out k
      go_wp2_with fail
      go_roundw
      case rel => exact ⟨k + 1, by go_num, by omega, Lib.hid (by
        refine World.rowIs.congr (World.rowIs.set HR.out k _) fun j hj => ?_
        unfold mR
        by_cases e : j = k
        · subst e
          rw [if_pos rfl, if_pos (show j < j + 1 by omega)]
          exact congrArg (fun b : UInt8 => Value.int .u8 (b.toNat : Int)) (bAt_get s j (by omega))
        · rw [if_neg e]
          by_cases h : j < k
          · rw [if_pos h, if_pos (show j < k + 1 by omega)]
          · rw [if_neg h, if_neg (show ¬ j < k + 1 by omega)]), Lib.hid (HB.out.setCell (p := ⟨_, k, none⟩) (Nat.le_refl _) _)⟩
      case measure => simp [intOf]; omega
    · as_aux_lemma =>
      obtain rfl : k = 16 := by omega
      rw [show ((16 : Nat) : Int) = 16 from rfl]
      have hr1 := st16_row (f := bAt s.data.toList) (World.rowIs.congr HR.out fun j hj => by unfold mR; rw [if_pos hj])
      have hr0 := (HB.out.block w.heap.size (Nat.lt_succ_self _)).trans HR0.out
      have BW := b2.trans (HB.out.mono (Nat.le_succ _))
      go_wp2_with (first | (refine wpList_load_row rfl 82 _ rfl (w.heap.size + 1) rfl _ _ _ _ hr1 Try.underlying82 rfl (by rw [st16_size]; kernel_rfl) ?_) | (refine wpList_store_row rfl _ _ _ rfl w.heap.size (st16 (bAt s.data.toList)) rfl rfl 82 _ hr0 (by rw [st16_size]; kernel_rfl) (by rw [st16_size]; rfl) (st16_one _) ?_))
      refine bodyPost_ret_by (results_cell_row rfl _ _ w.heap.size 82 (st16 (bAt s.data.toList)) (0, 0) _ rfl (setRow_heap _ _ _ (st16 (bAt s.data.toList)) 82 (0, 0) hr0) Try.underlying82 rfl (by rw [st16_size]; kernel_rfl)) rfl ⟨rfl, below_setRow BW (Nat.le_refl _) _⟩
end Go.Proofs.Ytbbanhjcchnhpaa

/- Package aes (cellaret): text. -/
namespace Go.Proofs.Ytbbanhjcchnhpaa
open Go.RowKit Go.Deep
set_option linter.unusedVariables false
set_option linter.unusedSimpArgs false
theorem make16k (w : World) : (Instr.makeSlice 77 (.int .i64 16) (.int .i64 16)).run Try.prog w = .ok (.slice (some ⟨w.heap.size, 0, none⟩) 16 16) (w.alloc (.cells (madeCells #[.int .u8 0] 16) 5)) :=
  run_make_row' (P := Try.prog) 77 5 (.int .u8 0) 1 Try.underlying77 (by kernel_rfl) rfl .i64 .i64 16 (by omega) (by omega) (w := w)
theorem index_st (f : Nat → UInt8) (i : Nat) (hi : i < 16) (w : World) : (Instr.index 82 (.agg (st16 f)) (.int .i64 (i : Int))).run Try.prog w = .ok (.int .u8 ((f i).toNat : Int)) w := by
  have hsz : ∀ w, (sizeOf 66).run Try.prog w = .ok 1 w := fun w => by kernel_rfl
  have px : ∀ w, (part 66 (st16 f) (i * 1)).run Try.prog w = .ok (.int .u8 ((f i).toNat : Int)) w := fun w => by
    simp [part, isAgg, run_underlying Try.underlying66, st16, hi]
  have h2 : (0 : Int) ≤ (i : Int) ∧ (i : Int) < ((16 : Nat) : Int) := ⟨by omega, by omega⟩
  unfold Instr.index
  simp only [asIntOf, Sem.run_bind, Sem.run_pure, Result.andThen_ok, run_underlying Try.underlying82, if_pos h2, hsz, Int.toNat_natCast, px]
def tx (f : Nat → UInt8) (k j : Nat) : UInt8 := if j < k then f j else 0
set_option maxRecDepth 100000 in
set_option maxHeartbeats 2000000 in
theorem text_any (f : Nat → UInt8) (w : World) :
    Calls Try.prog 60 #[.agg (st16 f)] w fun e w' => e = .returned (.string ⟨((List.range 16).map f).toArray⟩) ∧ Below w.heap.size w w' := by
  have hmk := make16k
  have hb1 := heap_alloc_new w (.cells (st16 f) 82)
  have hz := st16_size f
  go_enter Try.func60, Try.ntmps60
  go_wp2_with (refine wpList_load_row rfl 82 _ rfl w.heap.size rfl _ _ _ _ (((Below.refl (w.heap.size + 1) (w.alloc (.cells (st16 f) 82))).alloc (by simp) _).block w.heap.size (Nat.lt_succ_self _) |>.trans hb1) Try.underlying82 rfl (by rw [st16_size]; kernel_rfl) ?_)
  obtain ⟨w2, HW2, HR, B2⟩ : ∃ w2, Hid ((w.alloc (.cells (st16 f) 82)).alloc (.cells (madeCells #[.int .u8 0] 16) 5) = w2) ∧ Hid (w2.rowIs (w.heap.size + 1) 5 16 (fun j => .int .u8 ((tx f 0 j).toNat : Int))) ∧ Below w.heap.size w w2 :=
    ⟨_, Lib.hid rfl, Lib.hid (by have := World.rowIs_made (w.alloc (.cells (st16 f) 82)) (.int .u8 0) 16 5; rw [show (w.alloc (.cells (st16 f) 82)).heap.size = w.heap.size + 1 by simp] at this; exact this), ((Below.refl _ _).alloc (Nat.le_refl _) _).alloc (by simp) _⟩
  rw [HW2.out]
  clear HW2 hb1
  go_loopw [8] (fun x wi => ∃ k : Nat, x = .int .i64 (k : Int) ∧ k ≤ 16 ∧ Hid (wi.rowIs (w.heap.size + 1) 5 16 (fun j => .int .u8 ((tx f k j).toNat : Int))) ∧ Hid (Below (w.heap.size + 1) w2 wi)) (fun x _ => 16 - (intOf x).toNat)
  case atStart => exact ⟨0, rfl, by omega, HR, Lib.hid (Below.refl _ _)⟩
  clear HR
  case round =>
    obtain ⟨k, rfl, hk, HR, HB⟩ := hrel
    by_cases hlt : k < 16
    · as_aux_lemma =>
      have hli : (k : Int) < 16 := by omega
      have hix := index_st f k hlt
      have c0 := World.rowIs.cell HR.out (i := k) hlt
      have f0 := World.rowIs.frozen HR.out k
      go_wp2_with fail
      go_roundw
      case rel => exact ⟨k + 1, by go_num, by omega, Lib.hid (by
        refine World.rowIs.congr (World.rowIs.set HR.out k _) fun j hj => ?_
        unfold tx
        by_cases e : j = k
        · subst e
          rw [if_pos rfl, if_pos (show j < j + 1 by omega)]
        · rw [if_neg e]
          by_cases h : j < k
          · rw [if_pos h, if_pos (show j < k + 1 by omega)]
          · rw [if_neg h, if_neg (show ¬ j < k + 1 by omega)]), Lib.hid (HB.out.setCell (p := ⟨_, k, none⟩) (Nat.le_refl _) _)⟩
      case measure => simp [intOf]; omega
    · as_aux_lemma =>
      obtain rfl : k = 16 := by omega
      rw [show ((16 : Nat) : Int) = 16 from rfl]
      have hcv := conv_row (P := Try.prog) (cap := 16) (W := 16) (dst := 9) (f := f) Try.underlying77 Try.underlying5 Try.underlying9 (World.rowIs.congr HR.out fun j hj => by unfold tx; rw [if_pos hj]) (Nat.le_refl _)
      have BW := B2.trans (HB.out.mono (Nat.le_succ _))
      go_wp2_with fail
      go_ret
      exact ⟨rfl, BW⟩
end Go.Proofs.Ytbbanhjcchnhpaa

/- Package aes (cellaret): shift. -/
namespace Go.Proofs.Ytbbanhjcchnhpaa
open Go.RowKit Go.Deep
set_option linter.unusedVariables false
set_option linter.unusedSimpArgs false
/-- What lies below g stays; of what was there, block g alone turns. -/
structure Kp (g : Nat) (w w' : World) : Prop where
  below : Below g w w'
  other : ∀ k, k < w.heap.size → k ≠ g → w'.heap[k]? = w.heap[k]?
theorem Kp.refl (g : Nat) (w : World) : Kp g w w := ⟨Below.refl _ _, fun _ _ _ => rfl⟩
theorem Kp.of_below {g : Nat} {w w' : World} (h : Below w.heap.size w w') (hg : g < w.heap.size) : Kp g w w' := ⟨h.mono (Nat.le_of_lt hg), fun k hk _ => h.block k hk⟩
theorem Kp.trans {g : Nat} {a b c : World} (h : Kp g a b) (k : Kp g b c) : Kp g a c := ⟨h.below.trans k.below, fun i hi hn => (k.other i (Nat.lt_of_lt_of_le hi h.below.size) hn).trans (h.other i hi hn)⟩
theorem Kp.setCell {g : Nat} {w w' : World} (h : Kp g w w') (k : Nat) (v : Value) : Kp g w (w'.setCell ⟨g, k, none⟩ v) := ⟨h.below.setCell (p := ⟨g, k, none⟩) (Nat.le_refl _) v, fun i hi hn => (Below.heap_setCell w' ⟨g, k, none⟩ v i hn).trans (h.other i hi hn)⟩
theorem Kp.drew {g : Nat} {w w' : World} (h : Kp g w w') : Kp g w w'.drew := ⟨h.below.drew, h.other⟩
theorem Kp.setRow {g z : Nat} {w w' : World} (h : Kp g w w') (hz : z = g ∨ (g ≤ z ∧ w.heap.size ≤ z)) (cs : Array Value) : Kp g w (w'.setRow z cs) := ⟨below_setRow h.below (by omega) cs, fun i hi hn => (setRow_other w' z i cs (by omega)).trans (h.other i hi hn)⟩
theorem Kp.row {g : Nat} {w w' : World} {b : Nat} {o : Obj} (h : Kp g w w') (hn : b ≠ g) (hb : w.heap[b]? = some o) : w'.heap[b]? = some o := (h.other b (Array.getElem?_eq_some_iff.1 hb).1 hn).trans hb
/-- Where byte j of a shifted state comes from. -/
def srcS (b j : Nat) : Nat := j % 4 + 4 * ((j / 4 + b * (j % 4)) % 4)
def shF (f : Nat → UInt8) (b t j : Nat) : UInt8 := if j < t then f (srcS b j) else f j
theorem shF_step (f : Nat → UInt8) (b c r : Nat) (hc : c < 4) (hr : r < 4) (j : Nat) : shF f b (4 * c + r + 1) j = if j = r + 4 * c then f (r + 4 * ((c + b * r) % 4)) else shF f b (4 * c + r) j := by
  unfold shF
  by_cases e : j = r + 4 * c
  · rw [if_pos e, if_pos (show j < 4 * c + r + 1 by omega)]
    unfold srcS
    rw [show j % 4 = r by omega, show j / 4 = c by omega]
  · rw [if_neg e]
    by_cases h : j < 4 * c + r
    · rw [if_pos h, if_pos (show j < 4 * c + r + 1 by omega)]
    · rw [if_neg h, if_neg (show ¬ j < 4 * c + r + 1 by omega)]
set_option maxRecDepth 100000 in
set_option maxHeartbeats 3000000 in
theorem shift_any (f : Nat → UInt8) (g b : Nat) (w : World) (hb : b ≤ 3) (hR : Hid (w.rowIs g 82 16 (fun j => .int .u8 ((f j).toNat : Int)))) :
    Calls Try.prog 58 #[.pointer (some ⟨g, 0, none⟩), .int .i64 (b : Int)] w fun e w' => e = .returned (.tuple #[]) ∧ w'.rowIs g 82 16 (fun j => .int .u8 ((f (srcS b j)).toNat : Int)) ∧ Kp g w w' := by
  have hgs := World.rowIs.lt hR.out
  have hg := st16_row hR.out
  go_enter Try.func58, Try.ntmps58
  go_wp2_with (first | (refine wpList_load_row rfl 82 _ rfl g rfl _ _ _ _ hg Try.underlying82 rfl (by rw [st16_size]; kernel_rfl) ?_) | (refine wpList_store_row rfl _ _ _ rfl w.heap.size (st16 f) rfl rfl 82 _ (heap_alloc_new _ _) (by rw [st16_size]; kernel_rfl) (by rw [st16_size]; rfl) (st16_one _) ?_))
  obtain ⟨w2, HW2, HQ2, B2⟩ : ∃ w2, Hid ((w.alloc (.cells #[.int .u8 0, .int .u8 0, .int .u8 0, .int .u8 0, .int .u8 0, .int .u8 0, .int .u8 0, .int .u8 0, .int .u8 0, .int .u8 0, .int .u8 0, .int .u8 0, .int .u8 0, .int .u8 0, .int .u8 0, .int .u8 0] 82)).setRow w.heap.size (st16 f) = w2) ∧ Hid (w2.heap[w.heap.size]? = some (.cells (st16 f) 82 (0, 0))) ∧ Below w.heap.size w w2 :=
    ⟨_, Lib.hid rfl, Lib.hid (setRow_heap _ _ _ (st16 f) 82 (0, 0) (heap_alloc_new _ _)), below_setRow ((Below.refl _ _).alloc (Nat.le_refl _) _) (Nat.le_refl _) _⟩
  rw [HW2.out]
  clear HW2 hg
  have HR2 : Hid (w2.rowIs g 82 16 (fun j => .int .u8 ((shF f b (4 * 0 + 0) j).toNat : Int))) := Lib.hid (World.rowIs.of_block hR.out (B2.block g hgs))
  have BG : Kp g w w2 := Kp.of_below B2 hgs
  have HQR : Hid (w2.rowIs w.heap.size 82 16 (fun j => .int .u8 ((f j).toNat : Int))) := Lib.hid ⟨_, HQ2.out, st16_size f, st16_get f⟩
  have hgq : g ≠ w.heap.size := Nat.ne_of_lt hgs
  clear hR HQ2
  generalize w.heap.size = q at *
  go_loopw [10] (fun x wi => ∃ c : Nat, x = .int .i64 (c : Int) ∧ c ≤ 4 ∧ Hid (wi.rowIs g 82 16 (fun j => .int .u8 ((shF f b (4 * c + 0) j).toNat : Int))) ∧ Hid (wi.rowIs q 82 16 (fun j => .int .u8 ((f j).toNat : Int))) ∧ Hid (Kp g w wi)) (fun x _ => 4 - (intOf x).toNat)
  case atStart => exact ⟨0, rfl, by omega, HR2, HQR, Lib.hid BG⟩
  clear HR2 HQR
  case round =>
    obtain ⟨c, rfl, hc, HR, HQ, HB⟩ := hrel
    by_cases hlc : c < 4
    · as_aux_lemma =>
      have hci : (c : Int) < 4 := by omega
      go_wp2_with fail
      go_loopw [13] (fun x wi => ∃ r : Nat, x = .int .i64 (r : Int) ∧ r ≤ 4 ∧ Hid (wi.rowIs g 82 16 (fun j => .int .u8 ((shF f b (4 * c + r) j).toNat : Int))) ∧ Hid (wi.rowIs q 82 16 (fun j => .int .u8 ((f j).toNat : Int))) ∧ Hid (Kp g w wi)) (fun x _ => 4 - (intOf x).toNat)
      case atStart => exact ⟨0, rfl, by omega, HR, HQ, HB⟩
      clear HR HQ HB
      case round =>
        obtain ⟨r, rfl, hr, HR, HQ, HB⟩ := hrel
        by_cases hlr : r < 4
        · as_aux_lemma =>
          have hri : (r : Int) < 4 := by omega
          obtain ⟨m, hm⟩ : ∃ m, Hid (b * r = m) := ⟨_, Lib.hid rfl⟩
          have hm9 : m ≤ 9 := by rw [← hm.out]; exact Nat.le_trans (Nat.mul_le_mul hb (show r ≤ 3 by omega)) (by decide)
          have hbr : (b : Int) * (r : Int) = (m : Int) := by rw [← hm.out]; exact (Int.natCast_mul b r).symm
          obtain ⟨n, hn⟩ : ∃ n, Hid ((c + m) % 4 = n) := ⟨_, Lib.hid rfl⟩
          have hn4 : n < 4 := by rw [← hn.out]; exact Nat.mod_lt _ (by decide)
          have hcm : ((c : Int) + (m : Int)) % 4 = (n : Int) := by have := hn.out; omega
          have hct : ((c : Int) + (m : Int)).tmod 4 = (n : Int) := by rw [Int.tmod_eq_emod_of_nonneg (by omega)]; exact hcm
          have x1 : ((r : Int) + 4 * (n : Int)).toNat = r + 4 * n := by omega
          have x2 : ((r : Int) + 4 * (c : Int)).toNat = r + 4 * c := by omega
          have x3 : (r : Int) + 4 * (n : Int) < 16 := by omega
          have x4 : (r : Int) + 4 * (c : Int) < 16 := by omega
          have x5 : (0 : Int) ≤ (r : Int) + 4 * (n : Int) := by omega
          have x6 : (0 : Int) ≤ (r : Int) + 4 * (c : Int) := by omega
          have y1 : IntKind.i64.wrap (m : Int) = m := IntWalk.i64_in _ (by omega)
          have y2 : IntKind.i64.wrap ((c : Int) + m) = c + m := IntWalk.i64_in _ (by omega)
          have y3 : IntKind.i64.wrap (4 * (n : Int)) = 4 * n := IntWalk.i64_in _ (by omega)
          have y4 : IntKind.i64.wrap ((r : Int) + 4 * n) = r + 4 * n := IntWalk.i64_in _ (by omega)
          have y5 : IntKind.i64.wrap (4 * (c : Int)) = 4 * c := IntWalk.i64_in _ (by omega)
          have y6 : IntKind.i64.wrap ((r : Int) + 4 * c) = r + 4 * c := IntWalk.i64_in _ (by omega)
          have c0 := World.rowIs.cell HQ.out (i := r + 4 * n) (by omega)
          have d0 := World.rowIs.cell HR.out (i := r + 4 * c) (by omega)
          have f0 := World.rowIs.frozen HR.out (r + 4 * c)
          go_upto_region 7 with fail
          refine wp_region_lin (S := (fun w' => w'.cell? ⟨q, r + 4 * n, none⟩ = some (.int .u8 ((f (r + 4 * n)).toNat : Int)))) [(0, true), (1, true), (2, true), (3, true), (4, true), (5, true), (6, true), (7, true), (8, true), (9, true), (10, true), (11, true), (12, true), (13, true), (14, true), (15, true), (16, true), (17, true), (18, false)] (by kernel_rfl) (by kernel_rfl) rfl (by kernel_rfl) ?_ (fun hHeld => ?_)
          · (try dsimp only); exact c0
          (refine wpL_calm (o := { dst := some 16, op := Go.Op.move (Go.Operand.tmp 0), type := 86, pos := "aes.go:109", after := #[], guard := none }) (v := ?_) rfl (Or.inl ⟨by rfl, ?_⟩) ?_; rotate_left; (focus (intro w hSw; (try dsimp only at hSw); go_simp; (try (with_reducible rfl)); done)); try simp only [Act.put, List.setIfInBounds_toArray, List.set_cons_zero, List.set_cons_succ])
          (refine wpL_calm (o := { dst := some 17, op := Go.Op.move (Go.Operand.tmp 6), type := 3, pos := "aes.go:109", after := #[], guard := none }) (v := ?_) rfl (Or.inl ⟨by rfl, ?_⟩) ?_; rotate_left; (focus (intro w hSw; (try dsimp only at hSw); go_simp; (try (with_reducible rfl)); done)); try simp only [Act.put, List.setIfInBounds_toArray, List.set_cons_zero, List.set_cons_succ])
          (refine wpL_calm (o := { dst := some 18, op := Go.Op.move (Go.Operand.tmp 5), type := 3, pos := "aes.go:109", after := #[], guard := none }) (v := ?_) rfl (Or.inl ⟨by rfl, ?_⟩) ?_; rotate_left; (focus (intro w hSw; (try dsimp only at hSw); go_simp; (try (with_reducible rfl)); done)); try simp only [Act.put, List.setIfInBounds_toArray, List.set_cons_zero, List.set_cons_succ])
          (refine wpL_calm (o := { dst := some 19, op := Go.Op.binOp Go.BinOp.mul 3 (Go.Operand.const (Go.Value.int Go.IntKind.i64 4)) (Go.Operand.tmp 18) 3, type := 3, pos := "aes.go:109", after := #[{ on := 2, ground := Go.Ground.data }], guard := none }) (v := ?_) rfl (Or.inl ⟨by rfl, ?_⟩) ?_; rotate_left; (focus (intro w hSw; (try dsimp only at hSw); go_simp; (try (with_reducible rfl)); done)); try simp only [Act.put, List.setIfInBounds_toArray, List.set_cons_zero, List.set_cons_succ])
          (refine wpL_calm (o := { dst := some 20, op := Go.Op.binOp Go.BinOp.add 3 (Go.Operand.tmp 17) (Go.Operand.tmp 19) 3, type := 3, pos := "aes.go:109", after := #[{ on := 1, ground := Go.Ground.data }, { on := 3, ground := Go.Ground.data }], guard := none }) (v := ?_) rfl (Or.inl ⟨by rfl, ?_⟩) ?_; rotate_left; (focus (intro w hSw; (try dsimp only at hSw); go_simp; (try (with_reducible rfl)); done)); try simp only [Act.put, List.setIfInBounds_toArray, List.set_cons_zero, List.set_cons_succ])
          (refine wpL_calm (o := { dst := some 21, op := Go.Op.move (Go.Operand.tmp 6), type := 3, pos := "aes.go:109", after := #[], guard := none }) (v := ?_) rfl (Or.inl ⟨by rfl, ?_⟩) ?_; rotate_left; (focus (intro w hSw; (try dsimp only at hSw); go_simp; (try (with_reducible rfl)); done)); try simp only [Act.put, List.setIfInBounds_toArray, List.set_cons_zero, List.set_cons_succ])
          (refine wpL_calm (o := { dst := some 22, op := Go.Op.move (Go.Operand.tmp 5), type := 3, pos := "aes.go:109", after := #[], guard := none }) (v := ?_) rfl (Or.inl ⟨by rfl, ?_⟩) ?_; rotate_left; (focus (intro w hSw; (try dsimp only at hSw); go_simp; (try (with_reducible rfl)); done)); try simp only [Act.put, List.setIfInBounds_toArray, List.set_cons_zero, List.set_cons_succ])
          (refine wpL_calm (o := { dst := some 23, op := Go.Op.move (Go.Operand.tmp 1), type := 3, pos := "aes.go:109", after := #[], guard := none }) (v := ?_) rfl (Or.inl ⟨by rfl, ?_⟩) ?_; rotate_left; (focus (intro w hSw; (try dsimp only at hSw); go_simp; (try (with_reducible rfl)); done)); try simp only [Act.put, List.setIfInBounds_toArray, List.set_cons_zero, List.set_cons_succ])
          (refine wpL_calm (o := { dst := some 24, op := Go.Op.move (Go.Operand.tmp 6), type := 3, pos := "aes.go:109", after := #[], guard := none }) (v := ?_) rfl (Or.inl ⟨by rfl, ?_⟩) ?_; rotate_left; (focus (intro w hSw; (try dsimp only at hSw); go_simp; (try (with_reducible rfl)); done)); try simp only [Act.put, List.setIfInBounds_toArray, List.set_cons_zero, List.set_cons_succ])
          (refine wpL_calm (o := { dst := some 25, op := Go.Op.binOp Go.BinOp.mul 3 (Go.Operand.tmp 23) (Go.Operand.tmp 24) 3, type := 3, pos := "aes.go:109", after := #[{ on := 7, ground := Go.Ground.data }, { on := 8, ground := Go.Ground.data }], guard := none }) (v := ?_) rfl (Or.inl ⟨by rfl, ?_⟩) ?_; rotate_left; (focus (intro w hSw; (try dsimp only at hSw); go_simp; (try (with_reducible rfl)); done)); try simp only [Act.put, List.setIfInBounds_toArray, List.set_cons_zero, List.set_cons_succ])
          (refine wpL_calm (o := { dst := some 26, op := Go.Op.binOp Go.BinOp.add 3 (Go.Operand.tmp 22) (Go.Operand.tmp 25) 3, type := 3, pos := "aes.go:109", after := #[{ on := 6, ground := Go.Ground.data }, { on := 9, ground := Go.Ground.data }], guard := none }) (v := ?_) rfl (Or.inl ⟨by rfl, ?_⟩) ?_; rotate_left; (focus (intro w hSw; (try dsimp only at hSw); go_simp; (try (with_reducible rfl)); done)); try simp only [Act.put, List.setIfInBounds_toArray, List.set_cons_zero, List.set_cons_succ])
          (refine wpL_calm (o := { dst := some 27, op := Go.Op.binOp Go.BinOp.rem 3 (Go.Operand.tmp 26) (Go.Operand.const (Go.Value.int Go.IntKind.i64 4)) 3, type := 3, pos := "aes.go:109", after := #[{ on := 10, ground := Go.Ground.data }], guard := none }) (v := ?_) rfl (Or.inl ⟨by rfl, ?_⟩) ?_; rotate_left; (focus (intro w hSw; (try dsimp only at hSw); go_simp; (try (with_reducible rfl)); done)); try simp only [Act.put, List.setIfInBounds_toArray, List.set_cons_zero, List.set_cons_succ])
          (refine wpL_calm (o := { dst := some 28, op := Go.Op.binOp Go.BinOp.mul 3 (Go.Operand.const (Go.Value.int Go.IntKind.i64 4)) (Go.Operand.tmp 27) 3, type := 3, pos := "aes.go:109", after := #[{ on := 11, ground := Go.Ground.data }], guard := none }) (v := ?_) rfl (Or.inl ⟨by rfl, ?_⟩) ?_; rotate_left; (focus (intro w hSw; (try dsimp only at hSw); go_simp; (try (with_reducible rfl)); done)); try simp only [Act.put, List.setIfInBounds_toArray, List.set_cons_zero, List.set_cons_succ])
          (refine wpL_calm (o := { dst := some 29, op := Go.Op.binOp Go.BinOp.add 3 (Go.Operand.tmp 21) (Go.Operand.tmp 28) 3, type := 3, pos := "aes.go:109", after := #[{ on := 5, ground := Go.Ground.data }, { on := 12, ground := Go.Ground.data }], guard := none }) (v := ?_) rfl (Or.inl ⟨by rfl, ?_⟩) ?_; rotate_left; (focus (intro w hSw; (try dsimp only at hSw); go_simp; (try (with_reducible rfl)); done)); try simp only [Act.put, List.setIfInBounds_toArray, List.set_cons_zero, List.set_cons_succ])
          (refine wpL_calm (o := { dst := some 30, op := Go.Op.indexAddr 82 (Go.Operand.tmp 4) (Go.Operand.tmp 29), type := 0, pos := "aes.go:109", after := #[{ on := 13, ground := Go.Ground.data }], guard := none }) (v := ?_) rfl (Or.inl ⟨by rfl, ?_⟩) ?_; rotate_left; (focus (intro w hSw; (try dsimp only at hSw); go_simp; (try (with_reducible rfl)); done)); try simp only [Act.put, List.setIfInBounds_toArray, List.set_cons_zero, List.set_cons_succ])
          (refine wpL_calm (o := { dst := some 31, op := Go.Op.load 66 (Go.Operand.tmp 30), type := 66, pos := "aes.go:109", after := #[{ on := 14, ground := Go.Ground.data }], guard := none }) (v := ?_) rfl (Or.inl ⟨by rfl, ?_⟩) ?_; rotate_left; (focus (intro w hSw; (try dsimp only at hSw); go_simp; (try (with_reducible rfl)); done)); try simp only [Act.put, List.setIfInBounds_toArray, List.set_cons_zero, List.set_cons_succ])
          (refine wpL_calm (o := { dst := some 32, op := Go.Op.nilCheck (Go.Operand.tmp 16), type := 0, pos := "aes.go:109", after := #[{ on := 0, ground := Go.Ground.data }], guard := none }) (v := ?_) rfl (Or.inl ⟨by rfl, ?_⟩) ?_; rotate_left; (focus (intro w hSw; (try dsimp only at hSw); go_simp; (try (with_reducible rfl)); done)); try simp only [Act.put, List.setIfInBounds_toArray, List.set_cons_zero, List.set_cons_succ])
          (refine wpL_calm (o := { dst := some 33, op := Go.Op.indexAddr 82 (Go.Operand.tmp 32) (Go.Operand.tmp 20), type := 0, pos := "aes.go:109", after := #[{ on := 16, ground := Go.Ground.data }, { on := 4, ground := Go.Ground.data }, { on := 0, ground := Go.Ground.phase }, { on := 1, ground := Go.Ground.phase }, { on := 2, ground := Go.Ground.phase }, { on := 3, ground := Go.Ground.phase }, { on := 4, ground := Go.Ground.phase }, { on := 5, ground := Go.Ground.phase }, { on := 6, ground := Go.Ground.phase }, { on := 7, ground := Go.Ground.phase }, { on := 8, ground := Go.Ground.phase }, { on := 9, ground := Go.Ground.phase }, { on := 10, ground := Go.Ground.phase }, { on := 11, ground := Go.Ground.phase }, { on := 12, ground := Go.Ground.phase }, { on := 13, ground := Go.Ground.phase }, { on := 14, ground := Go.Ground.phase }, { on := 15, ground := Go.Ground.phase }], guard := none }) (v := ?_) rfl (Or.inl ⟨by rfl, ?_⟩) ?_; rotate_left; (focus (intro w hSw; (try dsimp only at hSw); go_simp; (try (with_reducible rfl)); done)); try simp only [Act.put, List.setIfInBounds_toArray, List.set_cons_zero, List.set_cons_succ])
          refine wpL_loud0 (o := { dst := none, op := Go.Op.store 66 (Go.Operand.tmp 33) (Go.Operand.tmp 31), type := 0, pos := "aes.go:109", after := #[{ on := 17, ground := Go.Ground.data }, { on := 15, ground := Go.Ground.data }, { on := 0, ground := Go.Ground.phase }, { on := 1, ground := Go.Ground.phase }, { on := 2, ground := Go.Ground.phase }, { on := 3, ground := Go.Ground.phase }, { on := 4, ground := Go.Ground.phase }, { on := 5, ground := Go.Ground.phase }, { on := 6, ground := Go.Ground.phase }, { on := 7, ground := Go.Ground.phase }, { on := 8, ground := Go.Ground.phase }, { on := 9, ground := Go.Ground.phase }, { on := 10, ground := Go.Ground.phase }, { on := 11, ground := Go.Ground.phase }, { on := 12, ground := Go.Ground.phase }, { on := 13, ground := Go.Ground.phase }, { on := 14, ground := Go.Ground.phase }, { on := 15, ground := Go.Ground.phase }], guard := none }) rfl (by kernel_rfl) (fun K hK => ?_)
          go_simp
          refine hK.out _ _ ?_
          clear hK K
          try simp only [Act.put, List.setIfInBounds_toArray, List.set_cons_zero, List.set_cons_succ]
          refine wpL_nil ?_
          refine NoPanic.normal ?_
          go_wp2_with fail
          go_roundw
          case rel => exact ⟨r + 1, by go_num, by omega, Lib.hid (by
            refine World.rowIs.congr (World.rowIs.set HR.out (r + 4 * c) (.int .u8 ((f (r + 4 * n)).toNat : Int))) fun j hj => ?_
            rw [← Nat.add_assoc, shF_step f b c r hlc hlr j, hm.out, hn.out]
            by_cases e : j = r + 4 * c
            · rw [if_pos e, if_pos e]
            · rw [if_neg e, if_neg e]), Lib.hid (World.rowIs.setOther HQ.out (Ne.symm hgq) _), Lib.hid (by first | exact HB.out.setCell (r + 4 * c) _ | exact (HB.out.setCell (r + 4 * c) _).drew)⟩
          case measure => simp [intOf]; omega
        · as_aux_lemma =>
          obtain rfl : r = 4 := by omega
          rw [show ((4 : Nat) : Int) = 4 from rfl]
          go_wp2_with fail
          go_roundw
          case rel => exact ⟨c + 1, by go_num, by omega, Lib.hid (by rw [show 4 * (c + 1) + 0 = 4 * c + 4 by omega]; exact HR.out), HQ, HB⟩
          case measure => simp [intOf]; omega
    · as_aux_lemma =>
      obtain rfl : c = 4 := by omega
      rw [show ((4 : Nat) : Int) = 4 from rfl]
      go_wp2_with fail
      go_end0
      exact ⟨rfl, World.rowIs.congr HR.out fun j hj => by unfold shF; rw [if_pos (show j < 4 * 4 + 0 by omega)], HB.out⟩
end Go.Proofs.Ytbbanhjcchnhpaa

/- Package aes (cellaret): each, with forth and with back. -/
namespace Go.Proofs.Ytbbanhjcchnhpaa
open Go.RowKit Go.Deep
set_option linter.unusedVariables false
set_option linter.unusedSimpArgs false
def mE (φ : UInt8 → UInt8) (f : Nat → UInt8) (k j : Nat) : UInt8 := if j < k then φ (f j) else f j
theorem KeyAt.under {w w' : World} {g q : Nat} {W : Nat → UInt32} (h : KeyAt w g W) (hg : g < q) (hb : Below q w w') : KeyAt w' g W := World.rowIs.of_block h (hb.block g hg)
set_option maxRecDepth 100000 in
set_option maxHeartbeats 3000000 in
theorem each_any (fn : Nat) (φ : UInt8 → UInt8) (f : Nat → UInt8) (g kg : Nat) (W : Nat → UInt32) (w : World) (hK : Hid (KeyAt w kg W)) (hgk : kg < g) (hR : Hid (w.rowIs g 82 16 (fun j => .int .u8 ((f j).toNat : Int))))
    (heg : ∀ (args : Array Value) (w : World), (callFunc fn args).run Try.prog w = .ok (.enter fn args) w) (HF : Hid (∀ (b : UInt8) (w : World), KeyAt w kg W → Calls Try.prog fn #[.pointer (some ⟨kg, 0, none⟩), .int .u8 (b.toNat : Int)] w fun e w' => e = .returned (.int .u8 ((φ b).toNat : Int)) ∧ w = w')) :
    Calls Try.prog 57 #[.pointer (some ⟨g, 0, none⟩), .func (.func fn) #[.pointer (some ⟨kg, 0, none⟩)] #[]] w fun e w' => e = .returned (.tuple #[]) ∧ w'.rowIs g 82 16 (fun j => .int .u8 ((φ (f j)).toNat : Int)) ∧ Kp g w w' := by
  go_enter Try.func57, Try.ntmps57
  go_wp2_with fail
  go_loopw [7] (fun x wi => ∃ k : Nat, x = .int .i64 (k : Int) ∧ k ≤ 16 ∧ Hid (wi.rowIs g 82 16 (fun j => .int .u8 ((mE φ f k j).toNat : Int))) ∧ Hid (Kp g w wi)) (fun x _ => 16 - (intOf x).toNat)
  case atStart => exact ⟨0, rfl, by omega, Lib.hid (World.rowIs.congr hR.out fun j hj => by unfold mE; rw [if_neg (show ¬ j < 0 by omega)]), Lib.hid (Kp.refl _ _)⟩
  clear hR
  case round =>
    obtain ⟨k, rfl, hk, HR, HB⟩ := hrel
    by_cases hlt : k < 16
    · as_aux_lemma =>
      have hli : (k : Int) < 16 := by omega
      have c0 := World.rowIs.cell HR.out (i := k) hlt
      rw [show mE φ f k k = f k by unfold mE; rw [if_neg (Nat.lt_irrefl k)]] at c0
      have f0 := World.rowIs.frozen HR.out k
      have HKr : Hid (KeyAt wr kg W) := Lib.hid (hK.out.under hgk HB.out.below)
      go_upto_region 2 with fail
      refine wp_region_lin (S := (fun w' => w'.cell? ⟨g, k, none⟩ = some (.int .u8 ((f k).toNat : Int)))) [(0, true), (1, true), (2, true), (3, true), (4, true), (5, true)] (by kernel_rfl) (by kernel_rfl) rfl (by kernel_rfl) ?_ (fun hHeld => ?_)
      · (try dsimp only); exact c0
      (refine wpL_calm (o := { dst := some 9, op := Go.Op.move (Go.Operand.tmp 7), type := 3, pos := "aes.go:99", after := #[], guard := none }) (v := ?_) rfl (Or.inl ⟨by rfl, ?_⟩) ?_; rotate_left; (focus (intro w hSw; (try dsimp only at hSw); go_simp; (try (with_reducible rfl)); done)); try simp only [Act.put, List.setIfInBounds_toArray, List.set_cons_zero, List.set_cons_succ])
      (refine wpL_calm (o := { dst := some 10, op := Go.Op.nilCheck (Go.Operand.tmp 6), type := 0, pos := "aes.go:99", after := #[{ on := 4, ground := Go.Ground.gcOnly Go.Departure.lateStores }], guard := none }) (v := ?_) rfl (Or.inl ⟨by rfl, ?_⟩) ?_; rotate_left; (focus (intro w hSw; (try dsimp only at hSw); go_simp; (try (with_reducible rfl)); done)); try simp only [Act.put, List.setIfInBounds_toArray, List.set_cons_zero, List.set_cons_succ])
      (refine wpL_calm (o := { dst := some 11, op := Go.Op.indexAddr 82 (Go.Operand.tmp 10) (Go.Operand.tmp 7), type := 0, pos := "aes.go:99", after := #[{ on := 1, ground := Go.Ground.data }, { on := 4, ground := Go.Ground.gcOnly Go.Departure.lateStores }], guard := none }) (v := ?_) rfl (Or.inl ⟨by rfl, ?_⟩) ?_; rotate_left; (focus (intro w hSw; (try dsimp only at hSw); go_simp; (try (with_reducible rfl)); done)); try simp only [Act.put, List.setIfInBounds_toArray, List.set_cons_zero, List.set_cons_succ])
      (refine wpL_calm (o := { dst := some 12, op := Go.Op.load 66 (Go.Operand.tmp 11), type := 66, pos := "aes.go:99", after := #[{ on := 2, ground := Go.Ground.data }, { on := 4, ground := Go.Ground.gcOnly Go.Departure.lateStores }], guard := none }) (v := ?_) rfl (Or.inl ⟨by rfl, ?_⟩) ?_; rotate_left; (focus (intro w hSw; (try dsimp only at hSw); go_simp; (try (with_reducible rfl)); done)); try simp only [Act.put, List.setIfInBounds_toArray, List.set_cons_zero, List.set_cons_succ])
      (refine wpL_calm (o := { dst := some 4, op := Go.Op.assign (Go.Operand.tmp 9), type := 3, pos := "aes.go:99", after := #[{ on := 0, ground := Go.Ground.data }, { on := 0, ground := Go.Ground.phase }, { on := 1, ground := Go.Ground.textOnly Go.Departure.lateStores }, { on := 2, ground := Go.Ground.textOnly Go.Departure.lateStores }, { on := 3, ground := Go.Ground.textOnly Go.Departure.lateStores }], guard := none }) (v := ?_) rfl (Or.inl ⟨by rfl, ?_⟩) ?_; rotate_left; (focus (intro w hSw; (try dsimp only at hSw); go_simp; (try (with_reducible rfl)); done)); try simp only [Act.put, List.setIfInBounds_toArray, List.set_cons_zero, List.set_cons_succ])
      (refine wpL_calm (o := { dst := some 5, op := Go.Op.assign (Go.Operand.tmp 12), type := 66, pos := "aes.go:99", after := #[{ on := 3, ground := Go.Ground.data }, { on := 4, ground := Go.Ground.chain }, { on := 0, ground := Go.Ground.phase }, { on := 1, ground := Go.Ground.phase }, { on := 2, ground := Go.Ground.phase }, { on := 3, ground := Go.Ground.phase }, { on := 4, ground := Go.Ground.phase }], guard := none }) (v := ?_) rfl (Or.inl ⟨by rfl, ?_⟩) ?_; rotate_left; (focus (intro w hSw; (try dsimp only at hSw); go_simp; (try (with_reducible rfl)); done)); try simp only [Act.put, List.setIfInBounds_toArray, List.set_cons_zero, List.set_cons_succ])
      refine wpL_nil ?_
      refine NoPanic.normal ?_
      go_upto_region 3 with fail
      refine wp_region_lin (S := (fun _ => True)) [(0, true), (1, true), (2, true), (3, true), (5, true), (4, false), (6, true), (7, false)] (by kernel_rfl) (by kernel_rfl) rfl (by kernel_rfl) ?_ (fun hHeld => ?_)
      · (try dsimp only); try exact trivial
      (refine wpL_calm (o := { dst := some 13, op := Go.Op.move (Go.Operand.tmp 0), type := 86, pos := "aes.go:100", after := #[], guard := none }) (v := ?_) rfl (Or.inl ⟨by rfl, ?_⟩) ?_; rotate_left; (focus (intro w hSw; (try dsimp only at hSw); go_simp; (try (with_reducible rfl)); done)); try simp only [Act.put, List.setIfInBounds_toArray, List.set_cons_zero, List.set_cons_succ])
      (refine wpL_calm (o := { dst := some 14, op := Go.Op.move (Go.Operand.tmp 4), type := 3, pos := "aes.go:100", after := #[], guard := none }) (v := ?_) rfl (Or.inl ⟨by rfl, ?_⟩) ?_; rotate_left; (focus (intro w hSw; (try dsimp only at hSw); go_simp; (try (with_reducible rfl)); done)); try simp only [Act.put, List.setIfInBounds_toArray, List.set_cons_zero, List.set_cons_succ])
      (refine wpL_calm (o := { dst := some 15, op := Go.Op.move (Go.Operand.tmp 1), type := 68, pos := "aes.go:100", after := #[], guard := none }) (v := ?_) rfl (Or.inl ⟨by rfl, ?_⟩) ?_; rotate_left; (focus (intro w hSw; (try dsimp only at hSw); go_simp; (try (with_reducible rfl)); done)); try simp only [Act.put, List.setIfInBounds_toArray, List.set_cons_zero, List.set_cons_succ])
      (refine wpL_calm (o := { dst := some 16, op := Go.Op.move (Go.Operand.tmp 5), type := 66, pos := "aes.go:100", after := #[], guard := none }) (v := ?_) rfl (Or.inl ⟨by rfl, ?_⟩) ?_; rotate_left; (focus (intro w hSw; (try dsimp only at hSw); go_simp; (try (with_reducible rfl)); done)); try simp only [Act.put, List.setIfInBounds_toArray, List.set_cons_zero, List.set_cons_succ])
      (refine wpL_calm (o := { dst := some 18, op := Go.Op.nilCheck (Go.Operand.tmp 13), type := 0, pos := "aes.go:100", after := #[{ on := 0, ground := Go.Ground.data }], guard := none }) (v := ?_) rfl (Or.inl ⟨by rfl, ?_⟩) ?_; rotate_left; (focus (intro w hSw; (try dsimp only at hSw); go_simp; (try (with_reducible rfl)); done)); try simp only [Act.put, List.setIfInBounds_toArray, List.set_cons_zero, List.set_cons_succ])
      refine wpL_loud1 (o := { dst := some 17, op := Go.Op.call { callee := Go.Callee.value (Go.Operand.tmp 15), args := #[Go.Operand.tmp 16], argTypes := #[66] }, type := 66, pos := "aes.go:100", after := #[{ on := 2, ground := Go.Ground.data }, { on := 3, ground := Go.Ground.data }], guard := none }) rfl (fun K hK => ?_)
      (go_simp; refine (HF.out _ _ ?_).mono ?_; exact HKr.out; rintro e w' ⟨rfl, rfl⟩)
      try go_wp2_with fail
      refine hK.out _ _ ?_ (fun hHeld => ?_)
      · (try dsimp only); try trivial
      clear hK K
      try simp only [Act.put, List.setIfInBounds_toArray, List.set_cons_zero, List.set_cons_succ]
      (refine wpL_calm (o := { dst := some 19, op := Go.Op.indexAddr 82 (Go.Operand.tmp 18) (Go.Operand.tmp 14), type := 0, pos := "aes.go:100", after := #[{ on := 5, ground := Go.Ground.data }, { on := 1, ground := Go.Ground.data }, { on := 0, ground := Go.Ground.phase }, { on := 1, ground := Go.Ground.phase }, { on := 2, ground := Go.Ground.phase }, { on := 3, ground := Go.Ground.phase }, { on := 4, ground := Go.Ground.phase }], guard := none }) (v := ?_) rfl (Or.inl ⟨by rfl, ?_⟩) ?_; rotate_left; (focus (intro w hSw; (try dsimp only at hSw); go_simp; (try (with_reducible rfl)); done)); try simp only [Act.put, List.setIfInBounds_toArray, List.set_cons_zero, List.set_cons_succ])
      refine wpL_loud0 (o := { dst := none, op := Go.Op.store 66 (Go.Operand.tmp 19) (Go.Operand.tmp 17), type := 0, pos := "aes.go:100", after := #[{ on := 6, ground := Go.Ground.data }, { on := 4, ground := Go.Ground.data }, { on := 4, ground := Go.Ground.chain }, { on := 0, ground := Go.Ground.phase }, { on := 1, ground := Go.Ground.phase }, { on := 2, ground := Go.Ground.phase }, { on := 3, ground := Go.Ground.phase }, { on := 4, ground := Go.Ground.phase }], guard := none }) rfl (by kernel_rfl) (fun K hK => ?_)
      go_simp
      refine hK.out _ _ ?_
      clear hK K
      try simp only [Act.put, List.setIfInBounds_toArray, List.set_cons_zero, List.set_cons_succ]
      refine wpL_nil ?_
      refine NoPanic.normal ?_
      go_wp2_with fail
      go_roundw
      case rel => exact ⟨k + 1, by go_num, by omega, Lib.hid (by
        refine World.rowIs.congr (World.rowIs.set HR.out k (.int .u8 ((φ (f k)).toNat : Int))) fun j hj => ?_
        unfold mE
        by_cases e : j = k
        · subst e
          rw [if_pos rfl, if_pos (show j < j + 1 by omega)]
        · rw [if_neg e]
          by_cases h : j < k
          · rw [if_pos h, if_pos (show j < k + 1 by omega)]
          · rw [if_neg h, if_neg (show ¬ j < k + 1 by omega)]), Lib.hid (by first | exact HB.out.setCell k _ | exact (HB.out.setCell k _).drew | exact (HB.out.setCell k _).drew.drew)⟩
      case measure => simp [intOf]; omega
    · as_aux_lemma =>
      obtain rfl : k = 16 := by omega
      rw [show ((16 : Nat) : Int) = 16 from rfl]
      go_wp2_with fail
      go_end0
      exact ⟨rfl, World.rowIs.congr HR.out fun j hj => by unfold mE; rw [if_pos hj], HB.out⟩
theorem forth_enter (args : Array Value) (w : World) : (callFunc 56 args).run Try.prog w = .ok (.enter 56 args) w := by go_simp
theorem back_enter (args : Array Value) (w : World) : (callFunc 64 args).run Try.prog w = .ok (.enter 64 args) w := by go_simp
/-- Each, forth. -/
theorem each_forth (f : Nat → UInt8) (g kg : Nat) (W : Nat → UInt32) (w : World) (hK : Hid (KeyAt w kg W)) (hgk : kg < g) (hR : Hid (w.rowIs g 82 16 (fun j => .int .u8 ((f j).toNat : Int)))) :
    Calls Try.prog 57 #[.pointer (some ⟨g, 0, none⟩), .func (.func 56) #[.pointer (some ⟨kg, 0, none⟩)] #[]] w fun e w' => e = .returned (.tuple #[]) ∧ w'.rowIs g 82 16 (fun j => .int .u8 ((bx (f j)).toNat : Int)) ∧ Kp g w w' :=
  each_any _ bx f g kg W w hK hgk hR forth_enter (Lib.hid fun b w h => forth_any kg b W w h)
theorem each_back (f : Nat → UInt8) (g kg : Nat) (W : Nat → UInt32) (w : World) (hK : Hid (KeyAt w kg W)) (hgk : kg < g) (hR : Hid (w.rowIs g 82 16 (fun j => .int .u8 ((f j).toNat : Int)))) :
    Calls Try.prog 57 #[.pointer (some ⟨g, 0, none⟩), .func (.func 64) #[.pointer (some ⟨kg, 0, none⟩)] #[]] w fun e w' => e = .returned (.tuple #[]) ∧ w'.rowIs g 82 16 (fun j => .int .u8 ((ux (f j)).toNat : Int)) ∧ Kp g w w' :=
  each_any _ ux f g kg W w hK hgk hR back_enter (Lib.hid fun b w h => back_any kg b W w h)
end Go.Proofs.Ytbbanhjcchnhpaa

/- Package aes (cellaret): adder, and what it makes. -/
namespace Go.Proofs.Ytbbanhjcchnhpaa
open Go.RowKit Go.Deep
set_option linter.unusedVariables false
set_option linter.unusedSimpArgs false
/-- Byte j of the words 4n to 4n + 3. -/
def wB (W : Nat → UInt32) (n j : Nat) : UInt8 := byW (W (4 * n + j / 4)) (j % 4)
def adF (f : Nat → UInt8) (W : Nat → UInt32) (n t j : Nat) : UInt8 := if j < t then f j ^^^ wB W n j else f j
theorem adF_step (f : Nat → UInt8) (W : Nat → UInt32) (n c r : Nat) (hc : c < 4) (hr : r < 4) (j : Nat) : adF f W n (4 * c + (r + 1)) j = if j = r + 4 * c then f (r + 4 * c) ^^^ byW (W (4 * n + c)) r else adF f W n (4 * c + r) j := by
  unfold adF
  by_cases e : j = r + 4 * c
  · rw [if_pos e, if_pos (show j < 4 * c + (r + 1) by omega)]
    unfold wB
    rw [show j % 4 = r by omega, show j / 4 = c by omega, e]
  · rw [if_neg e]
    by_cases h : j < 4 * c + r
    · rw [if_pos h, if_pos (show j < 4 * c + (r + 1) by omega)]
    · rw [if_neg h, if_neg (show ¬ j < 4 * c + (r + 1) by omega)]
theorem adF_at (f : Nat → UInt8) (W : Nat → UInt32) (n c r : Nat) : adF f W n (4 * c + r) (r + 4 * c) = f (r + 4 * c) := by
  unfold adF
  rw [if_neg (show ¬ r + 4 * c < 4 * c + r by omega)]
theorem index_b4r (y : Nat → UInt8) (r : Nat) (hr : r < 4) (w : World) : (Instr.index 76 (b4v (y 0) (y 1) (y 2) (y 3)) (.int .i64 (r : Int))).run Try.prog w = .ok (.int .u8 ((y r).toNat : Int)) w := by
  obtain ⟨h0, h1, h2, h3⟩ := index_b4 y
  rcases (show r = 0 ∨ r = 1 ∨ r = 2 ∨ r = 3 by omega) with rfl | rfl | rfl | rfl
  · exact h0 w
  · exact h1 w
  · exact h2 w
  · exact h3 w
theorem adder_any (kg g : Nat) (w : World) : Calls Try.prog 55 #[.pointer (some ⟨kg, 0, none⟩), .pointer (some ⟨g, 0, none⟩)] w fun e w' => e = .returned (.func (.func 77) #[] #[.pointer (some ⟨w.heap.size, 0, none⟩), .pointer (some ⟨w.heap.size + 1, 0, none⟩)]) ∧ w'.cell? ⟨w.heap.size, 0, none⟩ = some (.pointer (some ⟨kg, 0, none⟩)) ∧ w'.cell? ⟨w.heap.size + 1, 0, none⟩ = some (.pointer (some ⟨g, 0, none⟩)) ∧ Below w.heap.size w w' ∧ w'.heap.size = w.heap.size + 2 := by
  go_enter Try.func55, Try.ntmps55
  go_wp2_with fail
  go_ret
  exact ⟨rfl, by simp [go_sem], by simp [go_sem], ((Below.refl _ _).alloc (Nat.le_refl _) _).alloc (by simp) _, by simp⟩
theorem addB_to (a b r : UInt8) (w : World) (h : Hid (a ^^^ b = r)) :
    Calls Try.prog 44 #[.int .u8 (a.toNat : Int), .int .u8 (b.toNat : Int)] w fun e w' => e = .returned (.int .u8 (r.toNat : Int)) ∧ w = w' := by
  have := add_any a.toNat b.toNat w a.toNat_lt b.toNat_lt
  rw [← UInt8.toNat_xor, h.out] at this
  exact this
set_option maxRecDepth 100000 in
set_option maxHeartbeats 3000000 in
theorem add_row (f : Nat → UInt8) (W : Nat → UInt32) (p q g kg n : Nat) (w : World) (hn : n ≤ 14) (hK : Hid (KeyAt w kg W)) (hgk : kg < g) (hp : p ≠ g) (hq : q ≠ g) (hR : Hid (w.rowIs g 82 16 (fun j => .int .u8 ((f j).toNat : Int))))
    (hP : Hid (w.cell? ⟨p, 0, none⟩ = some (.pointer (some ⟨kg, 0, none⟩)))) (hQ : Hid (w.cell? ⟨q, 0, none⟩ = some (.pointer (some ⟨g, 0, none⟩)))) :
    Calls Try.prog 77 #[.int .i64 (n : Int), .pointer (some ⟨p, 0, none⟩), .pointer (some ⟨q, 0, none⟩)] w fun e w' => e = .returned (.tuple #[]) ∧ w'.rowIs g 82 16 (fun j => .int .u8 ((f j ^^^ wB W n j).toNat : Int)) ∧ Kp g w w' ∧ (w'.cell? ⟨p, 0, none⟩ = some (.pointer (some ⟨kg, 0, none⟩)) ∧ w'.cell? ⟨q, 0, none⟩ = some (.pointer (some ⟨g, 0, none⟩))) := by
  go_enter Try.func77, Try.ntmps77
  go_wp2_with fail
  go_loopw [7] (fun x wi => ∃ c : Nat, x = .int .i64 (c : Int) ∧ c ≤ 4 ∧ Hid (wi.rowIs g 82 16 (fun j => .int .u8 ((adF f W n (4 * c + 0) j).toNat : Int))) ∧ Hid (Kp g w wi) ∧ Hid (wi.cell? ⟨p, 0, none⟩ = some (.pointer (some ⟨kg, 0, none⟩))) ∧ Hid (wi.cell? ⟨q, 0, none⟩ = some (.pointer (some ⟨g, 0, none⟩)))) (fun x _ => 4 - (intOf x).toNat)
  case atStart => exact ⟨0, rfl, by omega, Lib.hid (World.rowIs.congr hR.out fun j hj => by unfold adF; rw [if_neg (show ¬ j < 4 * 0 + 0 by omega)]), Lib.hid (Kp.refl _ _), hP, hQ⟩
  clear hR hP hQ
  case round =>
    obtain ⟨c, rfl, hc, HR, HB, HP, HQ⟩ := hrel
    by_cases hlc : c < 4
    · as_aux_lemma =>
      have hci : (c : Int) < 4 := by omega
      have hKr := hK.out.under hgk HB.out.below
      have cw := hKr.word (4 * n + c) (by omega)
      have z1 : IntKind.i64.wrap (4 * (n : Int)) = 4 * n := IntWalk.i64_in _ (by omega)
      have z2 : IntKind.i64.wrap (4 * (n : Int) + c) = 4 * n + c := IntWalk.i64_in _ (by omega)
      have z3 : (4 * (n : Int) + c).toNat = 4 * n + c := by omega
      have z4 : (0 : Int) ≤ 4 * (n : Int) + c := by omega
      have z5 : 4 * (n : Int) + c < 60 := by omega
      have cp := HP.out
      have CB := Lib.hid (fun w => bytesOf_any (W (4 * n + c)) w)
      have HS := Lib.hid (fun r hr j => adF_step f W n c r hlc hr j)
      clear hKr
      generalize W (4 * n + c) = x at cw CB HS
      go_wp2_with fail
      refine (CB.out _).mono ?_
      rintro e w1 ⟨rfl, b1⟩
      clear CB cw
      have hgr := World.rowIs.lt HR.out
      have HR1 : Hid (w1.rowIs g 82 16 (fun j => .int .u8 ((adF f W n (4 * c + 0) j).toNat : Int))) := Lib.hid (World.rowIs.of_block HR.out (b1.block g hgr))
      have HB1 : Hid (Kp g w w1) := Lib.hid (HB.out.trans (Kp.of_below b1 hgr))
      have HP1 : Hid (w1.cell? ⟨p, 0, none⟩ = some (.pointer (some ⟨kg, 0, none⟩))) := Lib.hid ((b1.cell (p := ⟨p, 0, none⟩) (block_lt_of_cell HP.out)).trans HP.out)
      have HQ1 : Hid (w1.cell? ⟨q, 0, none⟩ = some (.pointer (some ⟨g, 0, none⟩))) := Lib.hid ((b1.cell (p := ⟨q, 0, none⟩) (block_lt_of_cell HQ.out)).trans HQ.out)
      clear HR HB HP HQ b1 cp
      obtain ⟨y, hy⟩ : ∃ y, Hid (byW x = y) := ⟨_, Lib.hid rfl⟩
      rw [hy.out] at HS ⊢
      clear hy
      go_wp2_with fail
      go_loopw [20] (fun x wi => ∃ r : Nat, x = .int .i64 (r : Int) ∧ r ≤ 4 ∧ Hid (wi.rowIs g 82 16 (fun j => .int .u8 ((adF f W n (4 * c + r) j).toNat : Int))) ∧ Hid (Kp g w wi) ∧ Hid (wi.cell? ⟨p, 0, none⟩ = some (.pointer (some ⟨kg, 0, none⟩))) ∧ Hid (wi.cell? ⟨q, 0, none⟩ = some (.pointer (some ⟨g, 0, none⟩)))) (fun x _ => 4 - (intOf x).toNat)
      case atStart => exact ⟨0, rfl, by omega, HR1, HB1, HP1, HQ1⟩
      clear HR1 HB1 HP1 HQ1
      case round =>
        obtain ⟨r, rfl, hr, HR, HB, HP, HQ⟩ := hrel
        by_cases hlr : r < 4
        · as_aux_lemma =>
          have hri : (r : Int) < 4 := by omega
          have x2 : ((r : Int) + 4 * (c : Int)).toNat = r + 4 * c := by omega
          have x4 : (r : Int) + 4 * (c : Int) < 16 := by omega
          have x6 : (0 : Int) ≤ (r : Int) + 4 * (c : Int) := by omega
          have y5 : IntKind.i64.wrap (4 * (c : Int)) = 4 * c := IntWalk.i64_in _ (by omega)
          have y6 : IntKind.i64.wrap ((r : Int) + 4 * c) = r + 4 * c := IntWalk.i64_in _ (by omega)
          have d0 := World.rowIs.cell HR.out (i := r + 4 * c) (by omega)
          rw [adF_at] at d0
          have f0 := World.rowIs.frozen HR.out (r + 4 * c)
          have hix := index_b4r y r hlr
          obtain ⟨v, hv⟩ : ∃ v, Hid (f (r + 4 * c) ^^^ y r = v) := ⟨_, Lib.hid rfl⟩
          have CA := Lib.hid (fun w => addB_to _ _ v w hv)
          have cq := HQ.out
          go_upto_region 6 with fail
          refine wp_region_lin (S := (fun w' => w'.cell? ⟨q, 0, none⟩ = some (.pointer (some ⟨g, 0, none⟩)) ∧ w'.cell? ⟨g, r + 4 * c, none⟩ = some (.int .u8 ((f (r + 4 * c)).toNat : Int)))) [(0, true), (1, true), (2, true), (3, true), (4, true), (5, true), (6, true), (7, true), (8, true), (9, true), (10, true), (11, true), (12, true), (13, true), (15, true), (14, false), (16, true), (17, false)] (by kernel_rfl) (by kernel_rfl) rfl (by kernel_rfl) ?_ (fun hHeld => ?_)
          · (try dsimp only); exact ⟨cq, d0⟩
          (refine wpL_calm (o := { dst := some 24, op := Go.Op.load 86 (Go.Operand.tmp 2), type := 86, pos := "aes.go:127", after := #[], guard := none }) (v := ?_) rfl (Or.inl ⟨by rfl, ?_⟩) ?_; rotate_left; (focus (intro w hSw; (try dsimp only at hSw); go_simp; (try (with_reducible rfl)); done)); try simp only [Act.put, List.setIfInBounds_toArray, List.set_cons_zero, List.set_cons_succ])
          (refine wpL_calm (o := { dst := some 25, op := Go.Op.move (Go.Operand.tmp 5), type := 3, pos := "aes.go:127", after := #[], guard := none }) (v := ?_) rfl (Or.inl ⟨by rfl, ?_⟩) ?_; rotate_left; (focus (intro w hSw; (try dsimp only at hSw); go_simp; (try (with_reducible rfl)); done)); try simp only [Act.put, List.setIfInBounds_toArray, List.set_cons_zero, List.set_cons_succ])
          (refine wpL_calm (o := { dst := some 26, op := Go.Op.move (Go.Operand.tmp 4), type := 3, pos := "aes.go:127", after := #[], guard := none }) (v := ?_) rfl (Or.inl ⟨by rfl, ?_⟩) ?_; rotate_left; (focus (intro w hSw; (try dsimp only at hSw); go_simp; (try (with_reducible rfl)); done)); try simp only [Act.put, List.setIfInBounds_toArray, List.set_cons_zero, List.set_cons_succ])
          (refine wpL_calm (o := { dst := some 27, op := Go.Op.binOp Go.BinOp.mul 3 (Go.Operand.const (Go.Value.int Go.IntKind.i64 4)) (Go.Operand.tmp 26) 3, type := 3, pos := "aes.go:127", after := #[{ on := 2, ground := Go.Ground.data }], guard := none }) (v := ?_) rfl (Or.inl ⟨by rfl, ?_⟩) ?_; rotate_left; (focus (intro w hSw; (try dsimp only at hSw); go_simp; (try (with_reducible rfl)); done)); try simp only [Act.put, List.setIfInBounds_toArray, List.set_cons_zero, List.set_cons_succ])
          (refine wpL_calm (o := { dst := some 28, op := Go.Op.binOp Go.BinOp.add 3 (Go.Operand.tmp 25) (Go.Operand.tmp 27) 3, type := 3, pos := "aes.go:127", after := #[{ on := 1, ground := Go.Ground.data }, { on := 3, ground := Go.Ground.data }], guard := none }) (v := ?_) rfl (Or.inl ⟨by rfl, ?_⟩) ?_; rotate_left; (focus (intro w hSw; (try dsimp only at hSw); go_simp; (try (with_reducible rfl)); done)); try simp only [Act.put, List.setIfInBounds_toArray, List.set_cons_zero, List.set_cons_succ])
          (refine wpL_calm (o := { dst := some 29, op := Go.Op.load 86 (Go.Operand.tmp 2), type := 86, pos := "aes.go:127", after := #[], guard := none }) (v := ?_) rfl (Or.inl ⟨by rfl, ?_⟩) ?_; rotate_left; (focus (intro w hSw; (try dsimp only at hSw); go_simp; (try (with_reducible rfl)); done)); try simp only [Act.put, List.setIfInBounds_toArray, List.set_cons_zero, List.set_cons_succ])
          (refine wpL_calm (o := { dst := some 30, op := Go.Op.move (Go.Operand.tmp 5), type := 3, pos := "aes.go:127", after := #[], guard := none }) (v := ?_) rfl (Or.inl ⟨by rfl, ?_⟩) ?_; rotate_left; (focus (intro w hSw; (try dsimp only at hSw); go_simp; (try (with_reducible rfl)); done)); try simp only [Act.put, List.setIfInBounds_toArray, List.set_cons_zero, List.set_cons_succ])
          (refine wpL_calm (o := { dst := some 31, op := Go.Op.move (Go.Operand.tmp 4), type := 3, pos := "aes.go:127", after := #[], guard := none }) (v := ?_) rfl (Or.inl ⟨by rfl, ?_⟩) ?_; rotate_left; (focus (intro w hSw; (try dsimp only at hSw); go_simp; (try (with_reducible rfl)); done)); try simp only [Act.put, List.setIfInBounds_toArray, List.set_cons_zero, List.set_cons_succ])
          (refine wpL_calm (o := { dst := some 32, op := Go.Op.binOp Go.BinOp.mul 3 (Go.Operand.const (Go.Value.int Go.IntKind.i64 4)) (Go.Operand.tmp 31) 3, type := 3, pos := "aes.go:127", after := #[{ on := 7, ground := Go.Ground.data }], guard := none }) (v := ?_) rfl (Or.inl ⟨by rfl, ?_⟩) ?_; rotate_left; (focus (intro w hSw; (try dsimp only at hSw); go_simp; (try (with_reducible rfl)); done)); try simp only [Act.put, List.setIfInBounds_toArray, List.set_cons_zero, List.set_cons_succ])
          (refine wpL_calm (o := { dst := some 33, op := Go.Op.binOp Go.BinOp.add 3 (Go.Operand.tmp 30) (Go.Operand.tmp 32) 3, type := 3, pos := "aes.go:127", after := #[{ on := 6, ground := Go.Ground.data }, { on := 8, ground := Go.Ground.data }], guard := none }) (v := ?_) rfl (Or.inl ⟨by rfl, ?_⟩) ?_; rotate_left; (focus (intro w hSw; (try dsimp only at hSw); go_simp; (try (with_reducible rfl)); done)); try simp only [Act.put, List.setIfInBounds_toArray, List.set_cons_zero, List.set_cons_succ])
          (refine wpL_calm (o := { dst := some 34, op := Go.Op.nilCheck (Go.Operand.tmp 29), type := 0, pos := "aes.go:127", after := #[{ on := 5, ground := Go.Ground.data }], guard := none }) (v := ?_) rfl (Or.inl ⟨by rfl, ?_⟩) ?_; rotate_left; (focus (intro w hSw; (try dsimp only at hSw); go_simp; (try (with_reducible rfl)); done)); try simp only [Act.put, List.setIfInBounds_toArray, List.set_cons_zero, List.set_cons_succ])
          (refine wpL_calm (o := { dst := some 35, op := Go.Op.indexAddr 82 (Go.Operand.tmp 34) (Go.Operand.tmp 33), type := 0, pos := "aes.go:127", after := #[{ on := 10, ground := Go.Ground.data }, { on := 9, ground := Go.Ground.data }], guard := none }) (v := ?_) rfl (Or.inl ⟨by rfl, ?_⟩) ?_; rotate_left; (focus (intro w hSw; (try dsimp only at hSw); go_simp; (try (with_reducible rfl)); done)); try simp only [Act.put, List.setIfInBounds_toArray, List.set_cons_zero, List.set_cons_succ])
          (refine wpL_calm (o := { dst := some 36, op := Go.Op.load 66 (Go.Operand.tmp 35), type := 66, pos := "aes.go:127", after := #[{ on := 11, ground := Go.Ground.data }], guard := none }) (v := ?_) rfl (Or.inl ⟨by rfl, ?_⟩) ?_; rotate_left; (focus (intro w hSw; (try dsimp only at hSw); go_simp; (try (with_reducible rfl)); done)); try simp only [Act.put, List.setIfInBounds_toArray, List.set_cons_zero, List.set_cons_succ])
          (refine wpL_calm (o := { dst := some 37, op := Go.Op.move (Go.Operand.tmp 6), type := 5, pos := "aes.go:127", after := #[], guard := none }) (v := ?_) rfl (Or.inl ⟨by rfl, ?_⟩) ?_; rotate_left; (focus (intro w hSw; (try dsimp only at hSw); go_simp; (try (with_reducible rfl)); done)); try simp only [Act.put, List.setIfInBounds_toArray, List.set_cons_zero, List.set_cons_succ])
          (refine wpL_calm (o := { dst := some 39, op := Go.Op.nilCheck (Go.Operand.tmp 24), type := 0, pos := "aes.go:127", after := #[{ on := 0, ground := Go.Ground.data }], guard := none }) (v := ?_) rfl (Or.inl ⟨by rfl, ?_⟩) ?_; rotate_left; (focus (intro w hSw; (try dsimp only at hSw); go_simp; (try (with_reducible rfl)); done)); try simp only [Act.put, List.setIfInBounds_toArray, List.set_cons_zero, List.set_cons_succ])
          refine wpL_loud1 (o := { dst := some 38, op := Go.Op.call { callee := Go.Callee.value (Go.Operand.func 44), args := #[Go.Operand.tmp 36, Go.Operand.tmp 37], argTypes := #[66, 66] }, type := 66, pos := "aes.go:127", after := #[{ on := 12, ground := Go.Ground.data }, { on := 13, ground := Go.Ground.data }], guard := none }) rfl (fun K hK => ?_)
          (go_simp; go_at_call 44; refine (CA.out _).mono ?_; rintro e w' ⟨rfl, rfl⟩)
          try go_wp2_with fail
          refine hK.out _ _ ?_ (fun hHeld => ?_)
          · (try dsimp only); try trivial
          clear hK K
          try simp only [Act.put, List.setIfInBounds_toArray, List.set_cons_zero, List.set_cons_succ]
          (refine wpL_calm (o := { dst := some 40, op := Go.Op.indexAddr 82 (Go.Operand.tmp 39) (Go.Operand.tmp 28), type := 0, pos := "aes.go:127", after := #[{ on := 15, ground := Go.Ground.data }, { on := 4, ground := Go.Ground.data }, { on := 0, ground := Go.Ground.phase }, { on := 1, ground := Go.Ground.phase }, { on := 2, ground := Go.Ground.phase }, { on := 3, ground := Go.Ground.phase }, { on := 4, ground := Go.Ground.phase }, { on := 5, ground := Go.Ground.phase }, { on := 6, ground := Go.Ground.phase }, { on := 7, ground := Go.Ground.phase }, { on := 8, ground := Go.Ground.phase }, { on := 9, ground := Go.Ground.phase }, { on := 10, ground := Go.Ground.phase }, { on := 11, ground := Go.Ground.phase }, { on := 12, ground := Go.Ground.phase }, { on := 13, ground := Go.Ground.phase }, { on := 14, ground := Go.Ground.phase }], guard := none }) (v := ?_) rfl (Or.inl ⟨by rfl, ?_⟩) ?_; rotate_left; (focus (intro w hSw; (try dsimp only at hSw); go_simp; (try (with_reducible rfl)); done)); try simp only [Act.put, List.setIfInBounds_toArray, List.set_cons_zero, List.set_cons_succ])
          refine wpL_loud0 (o := { dst := none, op := Go.Op.store 66 (Go.Operand.tmp 40) (Go.Operand.tmp 38), type := 0, pos := "aes.go:127", after := #[{ on := 16, ground := Go.Ground.data }, { on := 14, ground := Go.Ground.data }, { on := 14, ground := Go.Ground.chain }, { on := 0, ground := Go.Ground.phase }, { on := 1, ground := Go.Ground.phase }, { on := 2, ground := Go.Ground.phase }, { on := 3, ground := Go.Ground.phase }, { on := 4, ground := Go.Ground.phase }, { on := 5, ground := Go.Ground.phase }, { on := 6, ground := Go.Ground.phase }, { on := 7, ground := Go.Ground.phase }, { on := 8, ground := Go.Ground.phase }, { on := 9, ground := Go.Ground.phase }, { on := 10, ground := Go.Ground.phase }, { on := 11, ground := Go.Ground.phase }, { on := 12, ground := Go.Ground.phase }, { on := 13, ground := Go.Ground.phase }, { on := 14, ground := Go.Ground.phase }], guard := none }) rfl (by kernel_rfl) (fun K hK => ?_)
          go_simp
          refine hK.out _ _ ?_
          clear hK K
          try simp only [Act.put, List.setIfInBounds_toArray, List.set_cons_zero, List.set_cons_succ]
          refine wpL_nil ?_
          refine NoPanic.normal ?_
          go_wp2_with fail
          go_roundw
          case rel => exact ⟨r + 1, by go_num, by omega, Lib.hid (by
            refine World.rowIs.congr (World.rowIs.set HR.out (r + 4 * c) (.int .u8 (v.toNat : Int))) fun j hj => ?_
            rw [HS.out r hlr j, hv.out]
            by_cases e : j = r + 4 * c
            · rw [if_pos e, if_pos e]
            · rw [if_neg e, if_neg e]), Lib.hid (by first | exact HB.out.setCell (r + 4 * c) _ | exact (HB.out.setCell (r + 4 * c) _).drew | exact (HB.out.setCell (r + 4 * c) _).drew.drew),
            Lib.hid ((World.cell?_setCell_other _ _ _ _ (by intro e'; simp only [Addr.mk.injEq] at e'; exact hp e'.1.symm)).trans HP.out), Lib.hid ((World.cell?_setCell_other _ _ _ _ (by intro e'; simp only [Addr.mk.injEq] at e'; exact hq e'.1.symm)).trans HQ.out)⟩
          case measure => simp [intOf]; omega
        · as_aux_lemma =>
          obtain rfl : r = 4 := by omega
          rw [show ((4 : Nat) : Int) = 4 from rfl]
          go_wp2_with fail
          go_roundw
          case rel => exact ⟨c + 1, by go_num, by omega, Lib.hid (by rw [show 4 * (c + 1) + 0 = 4 * c + 4 by omega]; exact HR.out), HB, HP, HQ⟩
          case measure => simp [intOf]; omega
    · as_aux_lemma =>
      obtain rfl : c = 4 := by omega
      rw [show ((4 : Nat) : Int) = 4 from rfl]
      go_wp2_with fail
      go_end0
      exact ⟨rfl, World.rowIs.congr HR.out fun j hj => by unfold adF; rw [if_pos (show j < 4 * 4 + 0 by omega)], HB.out, HP.out, HQ.out⟩
end Go.Proofs.Ytbbanhjcchnhpaa
