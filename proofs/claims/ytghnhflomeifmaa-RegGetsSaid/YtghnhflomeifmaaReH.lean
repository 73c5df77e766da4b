/- Contracts (cellaret): reg.read. -/
import Derived.Test.YtghnhflomeifmaaReG
namespace Go.Proofs.Ytghnhflomeifmaa
open Go.RowKit Go.Deep
set_option linter.unusedVariables false
set_option linter.unusedSimpArgs false
theorem RegAt.grown {w w' : World} {g br : Nat} {R : Rg} (h : RegAt w g R) (hg : w.grownBy w' (some br)) (hne : g ≠ br) : RegAt w' g R :=
  (hg.block g h.lt (fun e => hne (by cases e; rfl))).trans h
theorem Rd.grown {w w' : World} {b g : Nat} {s : ByteArray} {k : Int} (h : Rd w b s k) (hg : w.grownBy w' (some g)) (hne : b ≠ g) : Rd w' b s k :=
  h.same (hg.block b h.lt (fun e => hne (by cases e; rfl))) hg.size
theorem Rd.setCell {w : World} {b g k : Nat} {v : Value} {s : ByteArray} {j : Int} (h : Rd w b s j) (hne : b ≠ g) : Rd (w.setCell ⟨g, k, none⟩ v) b s j :=
  h.same (Below.heap_setCell w _ v b hne) (by simp [World.setCell])
theorem RegAt.row {w : World} {g : Nat} {R : Rg} (h : RegAt w g R) : w.rowIs g 27 73 (rcell R) := ⟨_, h, rcells_size R, fun i hi => by simp [rcells, hi]⟩
theorem upd_ep (R : Rg) (v : Int) : ∀ j, j < 73 → rcell { R with ep := v } j = if j = 64 then .int .i64 v else rcell R j := by
  intro j hj
  by_cases h : j = 64
  · subst h; rfl
  · rw [if_neg h]
    unfold rcell
    simp only [if_neg h]
theorem upd_iv (R : Rg) (v : Int) : ∀ j, j < 73 → rcell { R with iv := v } j = if j = 65 then .int .i64 v else rcell R j := by
  intro j hj
  by_cases h : j = 65
  · subst h; rfl
  · rw [if_neg h]
    unfold rcell
    simp only [if_neg h]
theorem upd_a0 (R : Rg) (v : Int) : ∀ j, j < 73 → rcell { R with a0 := v } j = if j = 66 then .int .i64 v else rcell R j := by
  intro j hj
  by_cases h : j = 66
  · subst h; rfl
  · rw [if_neg h]
    unfold rcell
    simp only [if_neg h]
theorem upd_a1 (R : Rg) (v : Int) : ∀ j, j < 73 → rcell { R with a1 := v } j = if j = 67 then .int .i64 v else rcell R j := by
  intro j hj
  by_cases h : j = 67
  · subst h; rfl
  · rw [if_neg h]
    unfold rcell
    simp only [if_neg h]
theorem upd_u0 (R : Rg) (v : Int) : ∀ j, j < 73 → rcell { R with u0 := v } j = if j = 68 then .int .i64 v else rcell R j := by
  intro j hj
  by_cases h : j = 68
  · subst h; rfl
  · rw [if_neg h]
    unfold rcell
    simp only [if_neg h]
theorem upd_u1 (R : Rg) (v : Int) : ∀ j, j < 73 → rcell { R with u1 := v } j = if j = 69 then .int .i64 v else rcell R j := by
  intro j hj
  by_cases h : j = 69
  · subst h; rfl
  · rw [if_neg h]
    unfold rcell
    simp only [if_neg h]
theorem upd_di (R : Rg) (v : Int) : ∀ j, j < 73 → rcell { R with di := v } j = if j = 70 then .int .i64 v else rcell R j := by
  intro j hj
  by_cases h : j = 70
  · subst h; rfl
  · rw [if_neg h]
    unfold rcell
    simp only [if_neg h]
theorem upd_mo (R : Rg) (v : Int) : ∀ j, j < 73 → rcell { R with mo := v } j = if j = 71 then .int .i64 v else rcell R j := by
  intro j hj
  by_cases h : j = 71
  · subst h; rfl
  · rw [if_neg h]
    unfold rcell
    simp only [if_neg h]
theorem upd_at_ (R : Rg) (v : Bool) : ∀ j, j < 73 → rcell { R with at_ := v } j = if j = 72 then .bool v else rcell R j := by
  intro j hj
  by_cases h : j = 72
  · subst h; rfl
  · rw [if_neg h]
    unfold rcell
    dsimp only
    by_cases q0 : j < 32
    · simp only [if_pos q0]
    by_cases q1 : j < 64
    · simp only [if_neg q0, if_pos q1]
    rcases (show j = 64 ∨ j = 65 ∨ j = 66 ∨ j = 67 ∨ j = 68 ∨ j = 69 ∨ j = 70 ∨ j = 71 by omega) with rfl | rfl | rfl | rfl | rfl | rfl | rfl | rfl <;> rfl
theorem zero_reg : ∀ w, (zeroValue 27).run Try.prog w = .ok (.agg (rcells R0)) w := fun w => by kernel_rfl
theorem rcells_one (R : Rg) : (rcells R).all (·.oneCell') = true := by
  simp only [rcells, List.all_toArray, List.all_eq_true, List.mem_map]
  rintro v ⟨i, _, rfl⟩
  unfold rcell
  repeat' split
  all_goals rfl
theorem RB_first {w : World} {g : Nat} (s : ByteArray) (p : Nat) (h : RegAt w g { { RA s 2 with ep := num s 64 4 } with iv := num s 68 8 }) : RegAt w g (RB s p 0) := by
  have e : { { RA s 2 with ep := num s 64 4 } with iv := num s 68 8 } = RB s p 0 := by simp [RB, RA]
  exact e ▸ h
theorem RB_one {w : World} {g : Nat} (s : ByteArray) (p : Nat) (h : RegAt w g { { RB s p 0 with a0 := num s (p + 2 * 0) 1 } with u0 := num s (p + 2 * 0 + 1) 1 }) : RegAt w g (RB s p 1) := by
  have e : { { RB s p 0 with a0 := num s (p + 2 * 0) 1 } with u0 := num s (p + 2 * 0 + 1) 1 } = RB s p 1 := by simp [RB]
  exact e ▸ h
theorem RB_two {w : World} {g : Nat} (s : ByteArray) (p : Nat) (h : RegAt w g { { RB s p 1 with a1 := num s (p + 2 * 1) 1 } with u1 := num s (p + 2 * 1 + 1) 1 }) : RegAt w g (RB s p 2) := by
  have e : { { RB s p 1 with a1 := num s (p + 2 * 1) 1 } with u1 := num s (p + 2 * 1 + 1) 1 } = RB s p 2 := by simp [RB]
  exact e ▸ h
theorem RB_last {w : World} {g : Nat} (s : ByteArray) (h : RegAt w g { { { RB s (pos s) 2 with di := num s (pos s + 2 * 2) 1 } with mo := num s (pos s + 2 * 2 + 1) 1 } with at_ := num s (pos s + 2 * 2 + 1 + 1) 1 == 1 }) : RegAt w g (RD s) := by
  have e : { { { RB s (pos s) 2 with di := num s (pos s + 2 * 2) 1 } with mo := num s (pos s + 2 * 2 + 1) 1 } with at_ := num s (pos s + 2 * 2 + 1 + 1) 1 == 1 } = RD s := by simp [RB, RD]
  exact e ▸ h
theorem RA_zero (s : ByteArray) : RA s 0 = R0 := by simp [RA, R0]
attribute [local irreducible] num pos by_ RA RB RD rcells
set_option maxRecDepth 100000 in
set_option maxHeartbeats 1000000 in
theorem regread_any (s : ByteArray) (w : World) (h96 : s.size = 96) : Calls Try.prog 17 #[.string s] w fun e w' => e = .returned (.agg (rcells (RD s))) ∧ Below w.heap.size w w' := by
  obtain ⟨w0, HE, HR0, B0⟩ := box_reg w R0
  have l0 := HR0.lt
  have hzv := zero_reg
  go_enter Try.func17, Try.ntmps17
  go_wp2_with fail
  rw [HE.out]
  clear HE
  refine (read_any s w0).mono ?_
  rintro e w1 ⟨rfl, hw1⟩
  have HD1 : Rd w1 w0.heap.size s 0 := by rw [← hw1]; exact Rd.new _ _ _
  have b1 : Below w0.heap.size w0 w1 := by rw [← hw1]; exact (Below.refl _ _).alloc (Nat.le_refl _) _
  have HR1 := HR0.below b1 l0
  have B1 := B0.trans (b1.mono B0.size)
  clear hw1 HR0 B0 b1
  generalize w0.heap.size = br at *
  have hne : w.heap.size ≠ br := by omega
  go_wp2
  go_loopw [18] (fun x wi => ∃ i : Nat, x = .int .i64 i ∧ i ≤ 2 ∧ RegAt wi w.heap.size (RA s i) ∧ Rd wi br s (32 * i : Nat) ∧ Below w.heap.size w wi) (fun x _ => 2 - (intOf x).toNat)
  case atStart => exact ⟨0, rfl, by omega, by rw [RA_zero]; exact HR1, HD1, B1⟩
  case round =>
    obtain ⟨i, rfl, hi, hr, hd, hb⟩ := hrel
    by_cases hlt : i < 2
    · rcases (show i = 0 ∨ i = 1 by omega) with rfl | rfl
      · rw [show ((0 : Nat) : Int) = 0 from rfl]
        have hx := bytes_ok 32 br wr s 0 hd (by omega) (by omega) (by omega)
        rw [show ((0 : Int) + 32).toNat = 32 from rfl, show ((0 : Int)).toNat = 0 from rfl] at hx
        have HX := Lib.hid hx
        have hz : (s.extract 0 32).size = 32 := by rw [ByteArray.size_extract]; omega
        have HS := Lib.hid (RA_step0 s h96)
        clear hx
        go_wp2_with fail
        refine HX.out.mono ?_
        rintro e w2 ⟨rfl, hd2, hg2⟩
        have hr2 := hr.grown hg2 hne
        have hb2 : Below w.heap.size w w2 := hb.grown hg2 hb.size (fun k e => by cases e; omega)
        generalize s.extract 0 32 = t at *
        have hG : w2.heap[w.heap.size]? = some (.cells (rcells (RA s 0)) 27 (0, 0)) := hr2
        have hi8 : (Try.prog.info? 5).map (·.size) = some 1 := by kernel_rfl
        have hfit : 0 + t.size ≤ (rcells (RA s 0)).size := by rw [rcells_size]; omega
        go_wp2_with (with_reducible refine wpList_copy_mid rfl _ _ _ _ rfl 5 27 Try.underlying41 hi8 w.heap.size 0 32 32 (rcells (RA s 0)) t rfl rfl hG (Nat.le_of_eq hz) hfit _ HS.out ?_)
        intro w3 h3 g3
        have hr3 : RegAt w3 w.heap.size (RA s 1) := h3
        have hd3 : Rd w3 br s (32 * 1 : Nat) := hd2.grown g3 (Ne.symm hne)
        have hb3 : Below w.heap.size w w3 := hb2.grown g3 hb2.size (fun k e => by cases e; exact Nat.le_refl _)
        clear HX HS hG h3 hr2 hd2
        go_wp2
        go_roundw
        case rel => exact ⟨1, rfl, by omega, hr3, hd3, hb3⟩
        case measure => simp [intOf]
      · rw [show ((1 : Nat) : Int) = 1 from rfl]
        have hx := bytes_ok 32 br wr s 32 hd (by omega) (by omega) (by omega)
        rw [show ((32 : Int) + 32).toNat = 64 from rfl, show ((32 : Int)).toNat = 32 from rfl] at hx
        have HX := Lib.hid hx
        have hz : (s.extract 32 64).size = 32 := by rw [ByteArray.size_extract]; omega
        have HS := Lib.hid (RA_step1 s h96)
        clear hx
        go_wp2_with fail
        refine HX.out.mono ?_
        rintro e w2 ⟨rfl, hd2, hg2⟩
        have hr2 := hr.grown hg2 hne
        have hb2 : Below w.heap.size w w2 := hb.grown hg2 hb.size (fun k e => by cases e; omega)
        generalize s.extract 32 64 = t at *
        have hG : w2.heap[w.heap.size]? = some (.cells (rcells (RA s 1)) 27 (0, 0)) := hr2
        have hi8 : (Try.prog.info? 5).map (·.size) = some 1 := by kernel_rfl
        have hfit : 32 + t.size ≤ (rcells (RA s 1)).size := by rw [rcells_size]; omega
        go_wp2_with (with_reducible refine wpList_copy_mid rfl _ _ _ _ rfl 5 27 Try.underlying41 hi8 w.heap.size 32 32 32 (rcells (RA s 1)) t rfl rfl hG (Nat.le_of_eq hz) hfit _ HS.out ?_)
        intro w3 h3 g3
        have hr3 : RegAt w3 w.heap.size (RA s 2) := h3
        have hd3 : Rd w3 br s (32 * 2 : Nat) := hd2.grown g3 (Ne.symm hne)
        have hb3 : Below w.heap.size w w3 := hb2.grown g3 hb2.size (fun k e => by cases e; exact Nat.le_refl _)
        clear HX HS hG h3 hr2 hd2
        go_wp2
        go_roundw
        case rel => exact ⟨2, rfl, by omega, hr3, hd3, hb3⟩
        case measure => simp [intOf]
    · obtain rfl : i = 2 := by omega
      have HN1 := Lib.hid (num4 br wr s hd h96)
      go_wp2_with fail
      refine HN1.out.mono ?_
      rintro e x1 ⟨rfl, xd1, xg1⟩
      have xr1 := hr.grown xg1 hne
      have xb1 : Below w.heap.size w x1 := hb.grown xg1 hb.size (fun k e => by cases e; omega)
      clear HN1 hd hr hb xg1
      have xc1 := xr1.cell 64 (by omega)
      have xf1 := xr1.row.frozen 64
      generalize rcell _ 64 = xv1 at xc1
      go_wp2_with fail
      have yr1 := xr1.upd 64 _ _ (upd_ep _ (num s 64 4))
      have yd1 := xd1.setCell (g := w.heap.size) (k := 64) (v := .int .i64 (num s 64 4)) hne.symm
      have yb1 := xb1.setCell (p := ⟨w.heap.size, 64, none⟩) (Nat.le_refl _) (.int .i64 (num s 64 4))
      clear xc1 xf1 xr1 xd1 xb1
      generalize x1.setCell ⟨w.heap.size, 64, none⟩ (.int .i64 (num s 64 4)) = y1 at *
      have HN2 := Lib.hid (num8 br y1 s yd1 h96)
      skip
      refine HN2.out.mono ?_
      rintro e x2 ⟨rfl, xd2, xg2⟩
      have xr2 := yr1.grown xg2 hne
      have xb2 : Below w.heap.size w x2 := yb1.grown xg2 yb1.size (fun k e => by cases e; omega)
      clear HN2 yd1 yr1 yb1 xg2
      generalize getE (s.extract 68 76).data.toList = eiv at *
      have xc2 := xr2.cell 65 (by omega)
      have xf2 := xr2.row.frozen 65
      generalize rcell _ 65 = xv2 at xc2
      go_wp2
      have yr2 := xr2.upd 65 _ _ (upd_iv _ (num s 68 8))
      have yd2 := xd2.setCell (g := w.heap.size) (k := 65) (v := .int .i64 (num s 68 8)) hne.symm
      have yb2 := xb2.setCell (p := ⟨w.heap.size, 65, none⟩) (Nat.le_refl _) (.int .i64 (num s 68 8))
      clear xc2 xf2 xr2 xd2 xb2
      generalize x2.setCell ⟨w.heap.size, 65, none⟩ (.int .i64 (num s 68 8)) = y2 at *
      have hp : pos s ≤ 76 := by unfold pos; split <;> omega
      have zr : RegAt y2 w.heap.size (RB s (pos s) 0) := RB_first s (pos s) yr2
      go_loopw [45] (fun x wi => ∃ i : Nat, x = .int .i64 i ∧ i ≤ 2 ∧ RegAt wi w.heap.size (RB s (pos s) i) ∧ Rd wi br s ((pos s + 2 * i : Nat) : Int) ∧ Below w.heap.size w wi) (fun x _ => 2 - (intOf x).toNat)
      case atStart => exact ⟨0, rfl, by omega, zr, yd2, yb2⟩
      clear zr yr2 yd2 yb2
      case round =>
        obtain ⟨i, rfl, hi, hr, hd, hb⟩ := hrel
        by_cases hlt : i < 2
        · rcases (show i = 0 ∨ i = 1 by omega) with rfl | rfl
          · rw [show ((0 : Nat) : Int) = 0 from rfl]
            have HN3 := Lib.hid (num1 (pos s + 2 * 0) br _ s hd h96 (by omega))
            go_wp2_with fail
            refine HN3.out.mono ?_
            rintro e x3 ⟨rfl, xd3, xg3⟩
            have xr3 := hr.grown xg3 hne
            have xb3 : Below w.heap.size w x3 := hb.grown xg3 hb.size (fun k e => by cases e; omega)
            clear HN3 hd hr hb xg3
            have xc3 := xr3.cell 66 (by omega)
            have xf3 := xr3.row.frozen 66
            generalize rcell _ 66 = xv3 at xc3
            go_wp2_with fail
            have yr3 := xr3.upd 66 _ _ (upd_a0 _ (num s (pos s + 2 * 0) 1))
            have yd3 := xd3.setCell (g := w.heap.size) (k := 66) (v := .int .i64 (num s (pos s + 2 * 0) 1)) hne.symm
            have yb3 := xb3.setCell (p := ⟨w.heap.size, 66, none⟩) (Nat.le_refl _) (.int .i64 (num s (pos s + 2 * 0) 1))
            clear xc3 xf3 xr3 xd3 xb3
            generalize x3.setCell ⟨w.heap.size, 66, none⟩ (.int .i64 (num s (pos s + 2 * 0) 1)) = y3 at *
            have HN4 := Lib.hid (num1 (pos s + 2 * 0 + 1) br y3 s yd3 h96 (by omega))
            skip
            refine HN4.out.mono ?_
            rintro e x4 ⟨rfl, xd4, xg4⟩
            have xr4 := yr3.grown xg4 hne
            have xb4 : Below w.heap.size w x4 := yb3.grown xg4 yb3.size (fun k e => by cases e; omega)
            clear HN4 yd3 yr3 yb3 xg4
            have xc4 := xr4.cell 68 (by omega)
            have xf4 := xr4.row.frozen 68
            generalize rcell _ 68 = xv4 at xc4
            go_wp2
            have yr4 := xr4.upd 68 _ _ (upd_u0 _ (num s (pos s + 2 * 0 + 1) 1))
            have yd4 := xd4.setCell (g := w.heap.size) (k := 68) (v := .int .i64 (num s (pos s + 2 * 0 + 1) 1)) hne.symm
            have yb4 := xb4.setCell (p := ⟨w.heap.size, 68, none⟩) (Nat.le_refl _) (.int .i64 (num s (pos s + 2 * 0 + 1) 1))
            clear xc4 xf4 xr4 xd4 xb4
            generalize x4.setCell ⟨w.heap.size, 68, none⟩ (.int .i64 (num s (pos s + 2 * 0 + 1) 1)) = y4 at *
            go_roundw
            case rel => exact ⟨1, rfl, by omega, RB_one s (pos s) yr4, by rw [show pos s + 2 * 1 = pos s + 2 * 0 + 1 + 1 from by omega]; exact yd4, yb4⟩
            case measure => simp [intOf]
          · rw [show ((1 : Nat) : Int) = 1 from rfl]
            have HN5 := Lib.hid (num1 (pos s + 2 * 1) br _ s hd h96 (by omega))
            go_wp2_with fail
            refine HN5.out.mono ?_
            rintro e x5 ⟨rfl, xd5, xg5⟩
            have xr5 := hr.grown xg5 hne
            have xb5 : Below w.heap.size w x5 := hb.grown xg5 hb.size (fun k e => by cases e; omega)
            clear HN5 hd hr hb xg5
            have xc5 := xr5.cell 67 (by omega)
            have xf5 := xr5.row.frozen 67
            generalize rcell _ 67 = xv5 at xc5
            go_wp2_with fail
            have yr5 := xr5.upd 67 _ _ (upd_a1 _ (num s (pos s + 2 * 1) 1))
            have yd5 := xd5.setCell (g := w.heap.size) (k := 67) (v := .int .i64 (num s (pos s + 2 * 1) 1)) hne.symm
            have yb5 := xb5.setCell (p := ⟨w.heap.size, 67, none⟩) (Nat.le_refl _) (.int .i64 (num s (pos s + 2 * 1) 1))
            clear xc5 xf5 xr5 xd5 xb5
            generalize x5.setCell ⟨w.heap.size, 67, none⟩ (.int .i64 (num s (pos s + 2 * 1) 1)) = y5 at *
            have HN6 := Lib.hid (num1 (pos s + 2 * 1 + 1) br y5 s yd5 h96 (by omega))
            skip
            refine HN6.out.mono ?_
            rintro e x6 ⟨rfl, xd6, xg6⟩
            have xr6 := yr5.grown xg6 hne
            have xb6 : Below w.heap.size w x6 := yb5.grown xg6 yb5.size (fun k e => by cases e; omega)
            clear HN6 yd5 yr5 yb5 xg6
            have xc6 := xr6.cell 69 (by omega)
            have xf6 := xr6.row.frozen 69
            generalize rcell _ 69 = xv6 at xc6
            go_wp2
            have yr6 := xr6.upd 69 _ _ (upd_u1 _ (num s (pos s + 2 * 1 + 1) 1))
            have yd6 := xd6.setCell (g := w.heap.size) (k := 69) (v := .int .i64 (num s (pos s + 2 * 1 + 1) 1)) hne.symm
            have yb6 := xb6.setCell (p := ⟨w.heap.size, 69, none⟩) (Nat.le_refl _) (.int .i64 (num s (pos s + 2 * 1 + 1) 1))
            clear xc6 xf6 xr6 xd6 xb6
            generalize x6.setCell ⟨w.heap.size, 69, none⟩ (.int .i64 (num s (pos s + 2 * 1 + 1) 1)) = y6 at *
            go_roundw
            case rel => exact ⟨2, rfl, by omega, RB_two s (pos s) yr6, by rw [show pos s + 2 * 2 = pos s + 2 * 1 + 1 + 1 from by omega]; exact yd6, yb6⟩
            case measure => simp [intOf]
        · obtain rfl : i = 2 := by omega
          have HN7 := Lib.hid (num1 (pos s + 2 * 2) br _ s hd h96 (by omega))
          go_wp2_with fail
          refine HN7.out.mono ?_
          rintro e x7 ⟨rfl, xd7, xg7⟩
          have xr7 := hr.grown xg7 hne
          have xb7 : Below w.heap.size w x7 := hb.grown xg7 hb.size (fun k e => by cases e; omega)
          clear HN7 hd hr hb xg7
          have xc7 := xr7.cell 70 (by omega)
          have xf7 := xr7.row.frozen 70
          generalize rcell _ 70 = xv7 at xc7
          go_wp2_with fail
          have yr7 := xr7.upd 70 _ _ (upd_di _ (num s (pos s + 2 * 2) 1))
          have yd7 := xd7.setCell (g := w.heap.size) (k := 70) (v := .int .i64 (num s (pos s + 2 * 2) 1)) hne.symm
          have yb7 := xb7.setCell (p := ⟨w.heap.size, 70, none⟩) (Nat.le_refl _) (.int .i64 (num s (pos s + 2 * 2) 1))
          clear xc7 xf7 xr7 xd7 xb7
          generalize x7.setCell ⟨w.heap.size, 70, none⟩ (.int .i64 (num s (pos s + 2 * 2) 1)) = y7 at *
          have HN8 := Lib.hid (num1 (pos s + 2 * 2 + 1) br y7 s yd7 h96 (by omega))
          skip
          refine HN8.out.mono ?_
          rintro e x8 ⟨rfl, xd8, xg8⟩
          have xr8 := yr7.grown xg8 hne
          have xb8 : Below w.heap.size w x8 := yb7.grown xg8 yb7.size (fun k e => by cases e; omega)
          clear HN8 yd7 yr7 yb7 xg8
          have xc8 := xr8.cell 71 (by omega)
          have xf8 := xr8.row.frozen 71
          generalize rcell _ 71 = xv8 at xc8
          go_wp2_with fail
          have yr8 := xr8.upd 71 _ _ (upd_mo _ (num s (pos s + 2 * 2 + 1) 1))
          have yd8 := xd8.setCell (g := w.heap.size) (k := 71) (v := .int .i64 (num s (pos s + 2 * 2 + 1) 1)) hne.symm
          have yb8 := xb8.setCell (p := ⟨w.heap.size, 71, none⟩) (Nat.le_refl _) (.int .i64 (num s (pos s + 2 * 2 + 1) 1))
          clear xc8 xf8 xr8 xd8 xb8
          generalize x8.setCell ⟨w.heap.size, 71, none⟩ (.int .i64 (num s (pos s + 2 * 2 + 1) 1)) = y8 at *
          have HN9 := Lib.hid (num1 (pos s + 2 * 2 + 1 + 1) br y8 s yd8 h96 (by omega))
          skip
          refine HN9.out.mono ?_
          rintro e x9 ⟨rfl, xd9, xg9⟩
          have xr9 := yr8.grown xg9 hne
          have xb9 : Below w.heap.size w x9 := yb8.grown xg9 yb8.size (fun k e => by cases e; omega)
          clear HN9 yd8 yr8 yb8 xg9
          have xc9 := xr9.cell 72 (by omega)
          have xf9 := xr9.row.frozen 72
          generalize rcell _ 72 = xv9 at xc9
          go_upto_region 21 with fail
          have yr := RB_last s (xr9.upd 72 _ _ (upd_at_ _ (num s (pos s + 2 * 2 + 1 + 1) 1 == 1)))
          have yb := xb9.setCell (p := ⟨w.heap.size, 72, none⟩) (Nat.le_refl _) (.bool (num s (pos s + 2 * 2 + 1 + 1) 1 == 1))
          clear xc9 xf9 xr9 xd9 xb9
          generalize x9.setCell ⟨w.heap.size, 72, none⟩ (.bool (num s (pos s + 2 * 2 + 1 + 1) 1 == 1)) = y at *
          have hG : y.heap[w.heap.size]? = some (.cells (rcells (RD s)) 27 (0, 0)) := yr
          go_wp2_with (first | (refine wpList_load_row rfl _ _ rfl w.heap.size rfl 27 (rcells (RD s)) (0, 0) _ hG Try.underlying27 rfl (by rw [rcells_size]; kernel_rfl) ?_) | (refine wpList_store_row rfl _ _ _ rfl w.heap.size (rcells (RD s)) rfl rfl 27 _ hG (by rw [rcells_size]; kernel_rfl) (by rw [rcells_size]) (rcells_one _) ?_))
          refine bodyPost_ret_by (results_cell_row rfl _ _ w.heap.size 27 (rcells (RD s)) (0, 0) _ rfl (setRow_heap _ _ _ (rcells (RD s)) 27 (0, 0) hG) Try.underlying27 rfl (by rw [rcells_size]; kernel_rfl)) rfl ⟨rfl, ?_⟩
          exact below_setRow yb (Nat.le_refl _) _
end Go.Proofs.Ytghnhflomeifmaa
