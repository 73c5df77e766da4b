/- Package dev (cellaret): Of, New. -/
import Derived.Test.YtjmginkkjkbpoaaDvA
namespace Go.Proofs.Ytjmginkkjkbpoaa
open Go.RowKit Go.Deep
set_option linter.unusedVariables false
set_option linter.unusedSimpArgs false
theorem DvAt.put {w : World} {g rb n : Nat} {bs : Nat → Bk} (h : DvAt w g rb n bs) (i : Nat) (hi : i < n) (a b : ByteArray) (c : Bool) : DvAt (((w.setCell ⟨rb, i * 3, none⟩ (.string a)).setCell ⟨rb, i * 3 + 1, none⟩ (.string b)).setCell ⟨rb, i * 3 + 2, none⟩ (.bool c)) g rb n (upB bs i ⟨a, b, c⟩) := by
  have hne : ∀ o : Nat, (⟨rb, o, none⟩ : Addr) ≠ ⟨g, 0, none⟩ := fun o e => by simp only [Addr.mk.injEq] at e; exact h.ne e.1.symm
  refine ⟨?_, ?_, h.ne⟩
  · rw [World.cell?_setCell_other _ _ _ _ (hne _), World.cell?_setCell_other _ _ _ _ (hne _), World.cell?_setCell_other _ _ _ _ (hne _)]
    exact h.hd
  · refine World.rowIs.congr (World.rowIs.set (World.rowIs.set (World.rowIs.set h.row (i * 3) (.string a)) (i * 3 + 1) (.string b)) (i * 3 + 2) (.bool c)) fun j hj => ?_
    unfold dvF upB
    by_cases e2 : j = i * 3 + 2
    · rw [if_pos e2, show j / 3 = i by omega, show j % 3 = 2 by omega, if_pos rfl]; rfl
    · rw [if_neg e2]
      by_cases e1 : j = i * 3 + 1
      · rw [if_pos e1, show j / 3 = i by omega, show j % 3 = 1 by omega, if_pos rfl]; rfl
      · rw [if_neg e1]
        by_cases e0 : j = i * 3
        · rw [if_pos e0, show j / 3 = i by omega, show j % 3 = 0 by omega, if_pos rfl]; rfl
        · rw [if_neg e0, if_neg (show ¬ j / 3 = i by omega)]
/-- An image's blocks; those behind the first k are none yet. -/
def ofB (s : ByteArray) (k i : Nat) : Bk := if i < k then ⟨s.extract (i * 64) ((i + 1) * 64), s.extract (i * 64) ((i + 1) * 64), false⟩ else ⟨⟨#[]⟩, ⟨#[]⟩, false⟩
theorem info_blk : (Try.prog.info? 91).map (fun i => (i.zero, i.size, i.bytes)) = some (some (.agg #[.string ⟨#[]⟩, .string ⟨#[]⟩, .bool false]), 3, 40) := by kernel_rfl
theorem info_partsD {P : Program} {t : TypeId} {z : Value} {n m : Nat} (h : (P.info? t).map (fun i => (i.zero, i.size, i.bytes)) = some (some z, n, m)) : ∃ i, P.info? t = some i ∧ i.zero = some z ∧ i.size = n ∧ i.bytes = m := by
  cases hq : P.info? t with
  | none => simp [hq] at h
  | some i => simp [hq] at h; exact ⟨i, rfl, h.1, h.2.1, h.2.2⟩
theorem of_nil (s : ByteArray) (w : World) (h : s.size % 64 ≠ 0) : Calls Try.prog 54 #[.string s] w fun e w' => e = .returned (.tuple #[.pointer none, .int .i64 6]) ∧ w = w' := by
  obtain ⟨m, hm⟩ : ∃ m, Hid (s.size % 64 = m) := ⟨_, Lib.hid rfl⟩
  have h1 : ((s.size : Int)).tmod 64 = (m : Int) := by rw [Int.tmod_eq_emod_of_nonneg (by omega)]; have := hm.out; omega
  have h2 : ((s.size : Int)) % 64 = (m : Int) := by have := hm.out; omega
  have h3 : ¬ (m : Int) = 0 := by have := hm.out; omega
  have h4 : ((m : Int) == 0) = false := beq_eq_false_iff_ne.2 h3
  go_enter Try.func54, Try.ntmps54
  go_wp2_with fail
  go_ret2
  exact ⟨rfl, rfl⟩
set_option maxRecDepth 100000 in
set_option maxHeartbeats 3000000 in
theorem of_anyO (s : ByteArray) (n : Nat) (w : World) (hs : s.size = 64 * n) (h1 : 1 ≤ n) (h512 : n ≤ 512) : Calls Try.prog 54 #[.string s] w fun e w' => ∃ g rb, e = .returned (.tuple #[.pointer (some ⟨g, 0, none⟩), .int .i64 0]) ∧ DvAt w' g rb n (ofB s n) ∧ Below w.heap.size w w' ∧ w.heap.size ≤ rb ∧ rb < g := by
  obtain ⟨i0, hi0, hz0, hz1, hz2⟩ := info_partsD info_blk
  have e1 : ((s.size : Int)).tmod 64 = 0 := by rw [Int.tmod_eq_emod_of_nonneg (by omega)]; omega
  have e2 : ((s.size : Int)) % 64 = 0 := by omega
  have e3 : ((s.size : Int)).tdiv 64 = (n : Int) := by rw [Int.tdiv_eq_ediv_of_nonneg (by omega)]; omega
  have e4 : ((s.size : Int)) / 64 = (n : Int) := by omega
  have e5 : IntKind.i64.wrap (n : Int) = n := IntWalk.i64_in _ (by omega)
  have CM := Lib.hid (fun w => mayHave_any (n : Int) w)
  rw [show (decide (1 ≤ (n : Int)) && decide ((n : Int) ≤ 512)) = true by simp; omega] at CM
  have hmk : ∀ w, (Instr.makeSlice 92 (.int .i64 (n : Int)) (.int .i64 (n : Int))).run Try.prog w = .ok (.slice (some ⟨w.heap.size, 0, none⟩) n n) (w.alloc (.cells (madeCells #[.string ⟨#[]⟩, .string ⟨#[]⟩, .bool false] (n * 3)) 91)) := fun w => by
    have := run_make (P := Try.prog) w 92 91 i0 (.agg #[.string ⟨#[]⟩, .string ⟨#[]⟩, .bool false]) Try.underlying92 hi0 hz0 .i64 .i64 (n : Int) (n : Int) (by omega) (Int.le_refl _) (by rw [hz2]; omega) (by omega)
    rw [hz1] at this
    exact this
  go_enter Try.func54, Try.ntmps54
  go_wp2_with fail
  refine (CM.out _).mono ?_
  rintro e w' ⟨rfl, rfl⟩
  go_wp2_with fail
  obtain ⟨w2, HW2, HD2, HB2⟩ : ∃ w2, Hid ((w.alloc (.cells (madeCells #[.string ⟨#[]⟩, .string ⟨#[]⟩, .bool false] (n * 3)) 91)).alloc (.cells #[.slice (some ⟨w.heap.size, 0, none⟩) n n] 94) = w2) ∧ Hid (DvAt w2 (w.heap.size + 1) w.heap.size n (ofB s 0)) ∧ Hid (Below w.heap.size w w2) := by
    have hs1 : (w.alloc (.cells (madeCells #[.string ⟨#[]⟩, .string ⟨#[]⟩, .bool false] (n * 3)) 91)).heap.size = w.heap.size + 1 := by simp
    have hg := heap_alloc_new (w.alloc (.cells (madeCells #[.string ⟨#[]⟩, .string ⟨#[]⟩, .bool false] (n * 3)) 91)) (.cells #[.slice (some ⟨w.heap.size, 0, none⟩) n n] 94)
    rw [hs1] at hg
    have hr := heap_alloc_old (w.alloc (.cells (madeCells #[.string ⟨#[]⟩, .string ⟨#[]⟩, .bool false] (n * 3)) 91)) (.cells #[.slice (some ⟨w.heap.size, 0, none⟩) n n] 94) (show w.heap.size < _ by rw [hs1]; omega)
    rw [heap_alloc_new] at hr
    refine ⟨_, Lib.hid rfl, Lib.hid ⟨cell_of_row _ _ 0 _ _ _ hg, ⟨_, hr, by rw [size_madeCells]; omega, fun j hj => ?_⟩, by omega⟩, Lib.hid (((Below.refl _ _).alloc (Nat.le_refl _) _).alloc (by rw [hs1]; omega) _)⟩
    unfold madeCells
    rw [Array.getElem?_map, Array.getElem?_range, if_pos (show j < n * 3 by omega)]
    unfold dvF ofB cB
    rw [if_neg (Nat.not_lt_zero _)]
    rcases (show j % 3 = 0 ∨ j % 3 = 1 ∨ j % 3 = 2 by omega) with e | e | e
    · show some (#[Value.string ⟨#[]⟩, Value.string ⟨#[]⟩, Value.bool false][j % 3]!) = _
      rw [e]; rfl
    · show some (#[Value.string ⟨#[]⟩, Value.string ⟨#[]⟩, Value.bool false][j % 3]!) = _
      rw [e]; rfl
    · show some (#[Value.string ⟨#[]⟩, Value.string ⟨#[]⟩, Value.bool false][j % 3]!) = _
      rw [e]; rfl
  rw [HW2.out]
  have HSZ := Lib.hid hs
  clear HW2 hmk CM hs e1 e2 e3 e4
  go_loopw [27] (fun x wi => ∃ k : Nat, x = .int .i64 (k : Int) ∧ k ≤ n ∧ Hid (DvAt wi (w.heap.size + 1) w.heap.size n (ofB s k)) ∧ Hid (Below w.heap.size w wi)) (fun x _ => n - (intOf x).toNat)
  case atStart => exact ⟨0, rfl, by omega, HD2, HB2⟩
  clear HD2 HB2
  case round =>
    obtain ⟨k, rfl, hk, HD, HB⟩ := hrel
    by_cases hlt : k < n
    · as_aux_lemma =>
      have hli : (k : Int) < n := by omega
      have hc := HD.out.hd
      have c0 := HD.out.now k hlt
      have c1 := HD.out.safe k hlt
      have c2 := HD.out.wr k hlt
      have f0 := World.rowIs.frozen HD.out.row (k * 3)
      have f1 := World.rowIs.frozen HD.out.row (k * 3 + 1)
      have f2 := World.rowIs.frozen HD.out.row (k * 3 + 2)
      obtain ⟨lo, hlo⟩ : ∃ lo, Hid (k * 64 = lo) := ⟨_, Lib.hid rfl⟩
      obtain ⟨hi, hhi⟩ : ∃ hi, Hid ((k + 1) * 64 = hi) := ⟨_, Lib.hid rfl⟩
      have y1 : IntKind.i64.wrap ((k : Int) * 64) = (lo : Int) := by rw [IntWalk.i64_in _ (by omega)]; have := hlo.out; omega
      have y2 : IntKind.i64.wrap ((k : Int) + 1) = k + 1 := IntWalk.i64_in _ (by omega)
      have y3 : IntKind.i64.wrap (((k : Int) + 1) * 64) = (hi : Int) := by rw [IntWalk.i64_in _ (by omega)]; have := hhi.out; omega
      have x4 : (lo : Int) ≤ (hi : Int) := by have := hlo.out; have := hhi.out; omega
      have x6 : (hi : Int) ≤ (s.size : Int) := by have := hhi.out; have := HSZ.out; omega
      have HE : Hid (s.extract (k * 64) ((k + 1) * 64) = s.extract lo hi) := Lib.hid (by rw [hlo.out, hhi.out])
      obtain ⟨b, hb⟩ : ∃ b, Hid (s.extract lo hi = b) := ⟨_, Lib.hid rfl⟩
      have hb' := hb.out
      have HTH : Hid (wr.there w.heap.size (k * 3) 3) := Lib.hid (fun j hj => ⟨by rw [World.rowIs.cell HD.out.row (i := k * 3 + j) (by omega)]; rfl, World.rowIs.frozen HD.out.row _⟩)
      go_wp2_with (refine wpList_store_mid rfl 91 _ _ rfl w.heap.size (k * 3) #[.string b, .string b, .bool false] rfl rfl HTH.out (by kernel_rfl) (by rfl) ?_)
      go_roundw
      case rel => exact ⟨k + 1, by go_num, by omega, Lib.hid (by
        have hq := HD.out.put k hlt b b false
        refine ⟨hq.hd, World.rowIs.congr hq.row fun j hj => ?_, hq.ne⟩
        unfold dvF upB ofB
        by_cases e : j / 3 = k
        · rw [if_pos e, e, if_pos (show k < k + 1 by omega), HE.out, hb.out]
        · rw [if_neg e]
          by_cases h : j / 3 < k
          · rw [if_pos h, if_pos (show j / 3 < k + 1 by omega)]
          · rw [if_neg h, if_neg (show ¬ j / 3 < k + 1 by omega)]), Lib.hid (((HB.out.setCell (p := ⟨w.heap.size, k * 3, none⟩) (Nat.le_refl _) (.string b)).setCell (p := ⟨w.heap.size, k * 3 + 1, none⟩) (Nat.le_refl _) (.string b)).setCell (p := ⟨w.heap.size, k * 3 + 2, none⟩) (Nat.le_refl _) (.bool false))⟩
      case measure => simp [intOf]; omega
    · as_aux_lemma =>
      obtain rfl : k = n := by omega
      go_wp2_with fail
      go_ret2
      exact ⟨_, _, rfl, HD.out, HB.out, Nat.le_refl _, Nat.lt_succ_self _⟩
theorem of_any (s : ByteArray) (n : Nat) (w : World) (hs : s.size = 64 * n) (h1 : 1 ≤ n) (h512 : n ≤ 512) : Calls Try.prog 54 #[.string s] w fun e w' => ∃ g rb, e = .returned (.tuple #[.pointer (some ⟨g, 0, none⟩), .int .i64 0]) ∧ DvAt w' g rb n (ofB s n) ∧ Below w.heap.size w w' ∧ w.heap.size ≤ rb :=
  (of_anyO s n w hs h1 h512).mono (fun e w' ⟨g, rb, h1, h2, h3, h4, _⟩ => ⟨g, rb, h1, h2, h3, h4⟩)
end Go.Proofs.Ytjmginkkjkbpoaa
