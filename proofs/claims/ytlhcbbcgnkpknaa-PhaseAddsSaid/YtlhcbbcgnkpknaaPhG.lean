/- Contracts (cellaret): a spectrum that there is not, the beat; what must come at any rate. -/
import Derived.Test.YtlhcbbcgnkpknaaPhF
namespace Go.Proofs.Ytlhcbbcgnkpknaa
open Go.RowKit
set_option linter.unusedVariables false
attribute [local go_sem] unary_negf run_store_complex run_store_float
attribute [local go_sem ↓] Go.wp_at_zero Go.wp_at_succ

set_option maxRecDepth 100000 in
set_option maxHeartbeats 2000000 in
theorem spectrum_no (l : Nat → Int) (w : World) (i : Nat) (hi : i < 4) (hl : ∀ t, t < i → 0 ≤ l t ∧ l t ≤ 1048576) (hb : ¬ (0 ≤ l i ∧ l i ≤ 1048576)) :
    Calls Try.prog 21 #[.agg #[.int .i64 (l 0), .int .i64 (l 1), .int .i64 (l 2), .int .i64 (l 3)]] w fun e w' =>
      e = .returned (.tuple #[.agg #[.complex .f64 0 0, .complex .f64 0 0, .complex .f64 0 0, .complex .f64 0 0], .int .i64 2]) ∧ Below w.heap.size w w' := by
  obtain ⟨w3, HW, HR, HX, hsz, B3⟩ := spec_init l w
  have HL := Lib.hid hl
  have HBad := Lib.hid hb
  clear hl hb
  go_enter Try.func21, Try.ntmps21
  go_wp2
  rw [HW.out]
  clear HW
  generalize hg : w.heap.size + 1 + 1 = g at HX hsz ⊢
  go_loopw [8] (fun x9 wi => ∃ k : Nat, x9 = .int .i64 k ∧ k ≤ i ∧ Hid (OutAt wi g (partX l k)) ∧ Below g w3 wi) (fun x9 _ => 4 - (intOf x9).toNat)
  case atStart => exact ⟨0, rfl, by omega, HX, Below.refl _ _⟩
  case round =>
    obtain ⟨k, rfl, hk, HF, hbw⟩ := hrel
    clear HX
    have hlt : k < 4 := by omega
    have hli : (k : Int) < 4 := by omega
    have ix := index4i l k hlt
    by_cases hki : k < i
    · have c0 := HF.out.cells k hlt
      have f0 := HF.out.free k hlt
      have HC := Lib.hid (fun w => isCount_any (l k) w)
      rw [decide_eq_true (HL.out k hki)] at HC
      have HP : Hid (OutAt (wr.setCell ⟨g, k, none⟩ (.complex .f64 (fi (l k)) 0)) g (partX l (k + 1))) := Lib.hid ((HF.out.put k hlt (fi (l k)) 0).congr (fun j hj => by
        unfold partX
        by_cases e : j = k
        · subst e; simp
        · rw [if_neg e]
          by_cases e' : j < k
          · rw [if_pos e', if_pos (by omega)]
          · rw [if_neg e', if_neg (by omega)]))
      go_wp2_with fail
      refine (HC.out _).mono ?_
      rintro e w1 ⟨rfl, rfl⟩
      go_wp2
      go_roundw
      case rel => exact ⟨k + 1, by go_num, by omega, HP, hbw.setCell (p := ⟨g, k, none⟩) (Nat.le_refl _) _⟩
      case measure => simp [intOf]; omega
    · obtain rfl : k = i := by omega
      have HC := Lib.hid (fun w => isCount_any (l k) w)
      rw [decide_eq_false HBad.out] at HC
      have HR1 : OutAt wr (w.heap.size + 1) (fun _ => (0, 0)) := ⟨fun k hk => (hbw.cell (p := ⟨w.heap.size + 1, k, none⟩) (by show w.heap.size + 1 < g; omega)).trans (HR.out.cells k hk), fun k hk => (hbw.frozen (p := ⟨w.heap.size + 1, k, none⟩) (by show w.heap.size + 1 < g; omega)).trans (HR.out.free k hk), Nat.lt_of_lt_of_le HR.out.lt hbw.size⟩
      have hsw := hbw.size
      have hBB : Below w.heap.size w wr := B3.trans (hbw.mono (by omega))
      have r0 := HR1.cells 0 (by omega)
      have r1 := HR1.cells 1 (by omega)
      have r2 := HR1.cells 2 (by omega)
      have r3 := HR1.cells 3 (by omega)
      have s0 := HR1.free 0 (by omega)
      have s1 := HR1.free 1 (by omega)
      have s2 := HR1.free 2 (by omega)
      have s3 := HR1.free 3 (by omega)
      clear HR1
      go_wp2_with fail
      refine (HC.out _).mono ?_
      rintro e w1 ⟨rfl, rfl⟩
      go_wp2
      refine bodyPost_ret (v := .tuple #[.agg #[.complex .f64 0 0, .complex .f64 0 0, .complex .f64 0 0, .complex .f64 0 0], .int .i64 2]) (by simp [results, Try.results21, go_sem, r0, r1, r2, r3]) rfl ⟨rfl, ?_⟩
      exact (((hBB.setCell (p := ⟨w.heap.size + 1, 0, none⟩) (by show w.heap.size ≤ w.heap.size + 1; omega) _).setCell (p := ⟨w.heap.size + 1, 1, none⟩) (by show w.heap.size ≤ w.heap.size + 1; omega) _).setCell (p := ⟨w.heap.size + 1, 2, none⟩) (by show w.heap.size ≤ w.heap.size + 1; omega) _).setCell (p := ⟨w.heap.size + 1, 3, none⟩) (by show w.heap.size ≤ w.heap.size + 1; omega) _
theorem beat_no (l : Nat → Int) (w : World) (i : Nat) (hi : i < 4) (hl : ∀ t, t < i → 0 ≤ l t ∧ l t ≤ 1048576) (hb : ¬ (0 ≤ l i ∧ l i ≤ 1048576)) :
    Calls Try.prog 22 #[.agg #[.int .i64 (l 0), .int .i64 (l 1), .int .i64 (l 2), .int .i64 (l 3)]] w fun e w' => e = .returned (.tuple #[.int .i64 0, .int .i64 2]) ∧ Below w.heap.size w w' := by
  have HS := Lib.hid (fun w => spectrum_no l w i hi hl hb)
  clear hl hb
  go_enter Try.func22, Try.ntmps22
  go_wp2_with fail
  refine (HS.out _).mono ?_
  rintro e w1 ⟨rfl, b1⟩
  have B0 : Below w.heap.size w (w.alloc (.cells #[.int .i64 (l 0), .int .i64 (l 1), .int .i64 (l 2), .int .i64 (l 3)] 46)) := (Below.refl _ _).alloc (Nat.le_refl _) _
  have B1 := B0.trans (b1.mono B0.size)
  go_wp2
  go_ret2
  exact ⟨rfl, B1.alloc B1.size _⟩
def NI (l : Nat → Int) (k : Nat) : Int := SAl l k * SAl l k + SBl l k * SBl l k
theorem NI_abs (l : Nat → Int) (k : Nat) (hl : ∀ t, t < 4 → 0 ≤ l t ∧ l t ≤ 1048576) : (SAl l k).natAbs ≤ 4194304 ∧ (SBl l k).natAbs ≤ 4194304 ∧ 0 ≤ NI l k ∧ NI l k ≤ 35184372088832 := by
  obtain ⟨h1, h2⟩ := S_abs (-1) (fun t => (l t, 0)) k 1048576 (fun t ht => ⟨by have := hl t ht; show (l t).natAbs ≤ _; omega, by show (0 : Int).natAbs ≤ _; omega⟩)
  have sq : ∀ x : Int, x.natAbs ≤ 4194304 → 0 ≤ x * x ∧ x * x ≤ 17592186044416 := fun x hx => by
    have e := Int.natAbs_mul_self (a := x)
    have := Nat.mul_le_mul hx hx
    omega
  have a1 : (SAl l k).natAbs ≤ 4194304 := h1
  have a2 : (SBl l k).natAbs ≤ 4194304 := h2
  have s1 := sq _ a1
  have s2 := sq _ a2
  refine ⟨a1, a2, ?_, ?_⟩
  · show 0 ≤ SAl l k * SAl l k + SBl l k * SBl l k; omega
  · show SAl l k * SAl l k + SBl l k * SBl l k ≤ _; omega
/-- The beat up to some k, and its square. -/
def beatI (l : Nat → Int) : Nat → Int × Int
  | 0 => (0, 0)
  | k + 1 => if (beatI l k).2 < NI l (k + 1) then ((k + 1 : Nat), NI l (k + 1)) else beatI l k
theorem beatI_bd (l : Nat → Int) (hl : ∀ t, t < 4 → 0 ≤ l t ∧ l t ≤ 1048576) (k : Nat) : 0 ≤ (beatI l k).1 ∧ (beatI l k).1 ≤ k ∧ 0 ≤ (beatI l k).2 ∧ (beatI l k).2 ≤ 35184372088832 := by
  induction k with
  | zero => show (0 : Int) ≤ 0 ∧ (0 : Int) ≤ ((0 : Nat) : Int) ∧ (0 : Int) ≤ 0 ∧ (0 : Int) ≤ 35184372088832; omega
  | succ k ih =>
    have := NI_abs l (k + 1) hl
    unfold beatI
    split
    · exact ⟨by show (0 : Int) ≤ ((k + 1 : Nat) : Int); omega, by show ((k + 1 : Nat) : Int) ≤ ((k + 1 : Nat) : Int); omega, this.2.2.1, this.2.2.2⟩
    · exact ⟨ih.1, by have := ih.2.1; omega, ih.2.2.1, ih.2.2.2⟩
set_option maxRecDepth 100000 in
set_option maxHeartbeats 2000000 in
theorem beat_ok (l : Nat → Int) (w : World) (hl : ∀ t, t < 4 → 0 ≤ l t ∧ l t ≤ 1048576) :
    Calls Try.prog 22 #[.agg #[.int .i64 (l 0), .int .i64 (l 1), .int .i64 (l 2), .int .i64 (l 3)]] w fun e w' => e = .returned (.tuple #[.int .i64 (beatI l 3).1, .int .i64 0]) ∧ Below w.heap.size w w' := by
  have HS := Lib.hid (fun w => spectrum_ok l w hl)
  have HL := Lib.hid hl
  clear hl
  go_enter Try.func22, Try.ntmps22
  go_wp2_with fail
  refine (HS.out _).mono ?_
  rintro e w1 ⟨rfl, b1⟩
  have B0 : Below w.heap.size w (w.alloc (.cells #[.int .i64 (l 0), .int .i64 (l 1), .int .i64 (l 2), .int .i64 (l 3)] 46)) := (Below.refl _ _).alloc (Nat.le_refl _) _
  have B1 := B0.trans (b1.mono B0.size)
  have HO : ∃ w2, Hid (w1.alloc (.cells #[.complex .f64 (fi (SAl l 0)) (fi (SBl l 0)), .complex .f64 (fi (SAl l 1)) (fi (SBl l 1)), .complex .f64 (fi (SAl l 2)) (fi (SBl l 2)), .complex .f64 (fi (SAl l 3)) (fi (SBl l 3))] 47) = w2) ∧ Hid (OutAt w2 w1.heap.size (fun k => (fi (SAl l k), fi (SBl l k)))) ∧ Below w.heap.size w w2 := by
    refine ⟨_, Lib.hid rfl, Lib.hid ⟨fun k hk => ?_, fun k hk => ?_, by simp⟩, B1.alloc B1.size _⟩
    all_goals (rcases k4 hk with rfl | rfl | rfl | rfl <;> simp [go_sem])
  obtain ⟨w2, HE, HO, B2⟩ := HO
  go_wp2
  rw [HE.out]
  clear HE
  generalize w1.heap.size = g at HO ⊢
  go_loopw [6, 7, 8] (fun x6 x7 x8 wi => ∃ k : Nat, x8 = .int .i64 ((k : Int) + 1) ∧ k ≤ 3 ∧ x6 = .int .i64 (beatI l k).1 ∧ x7 = .float .f64 (fi (beatI l k).2) ∧ ∃ q, wi = w2.drewN q) (fun _ _ x8 _ => 4 - (intOf x8).toNat)
  case atStart => exact ⟨0, rfl, by omega, rfl, by show Value.float .f64 0 = .float .f64 (fi 0); rw [fi_zero], 0, rfl⟩
  case round =>
    obtain ⟨k, rfl, hk, rfl, rfl, q, rfl⟩ := hrel
    by_cases hlt : k < 3
    · have c0 : (w2.drewN q).cell? ⟨g, k + 1, none⟩ = some (.complex .f64 (fi (SAl l (k + 1))) (fi (SBl l (k + 1)))) := HO.out.cells (k + 1) (by omega)
      have hli : (k : Int) + 1 < 4 := by omega
      have nb := NI_abs l (k + 1) HL.out
      have bb := beatI_bd l HL.out k
      have HN := Lib.hid (fun w => norm_int (SAl l (k + 1)) (SBl l (k + 1)) w (by omega) (by omega))
      have hord := order_fi (m := SAl l (k + 1) * SAl l (k + 1) + SBl l (k + 1) * SBl l (k + 1)) (n := (beatI l k).2) (by have := nb.2.2; unfold NI at this; omega) (by omega)
      by_cases hgt : (beatI l k).2 < NI l (k + 1)
      · have ho : (FloatKind.f64.format.order (fi (SAl l (k + 1) * SAl l (k + 1) + SBl l (k + 1) * SBl l (k + 1))) (fi (beatI l k).2) == some Ordering.gt) = true := by
          show (Ieee.double.order _ _ == some .gt) = true
          have hgt' : (beatI l k).2 < SAl l (k + 1) * SAl l (k + 1) + SBl l (k + 1) * SBl l (k + 1) := hgt
          rw [hord, (compare_int_gt _ _).2 hgt']; rfl
        have HB : Hid (beatI l (k + 1) = (((k + 1 : Nat) : Int), NI l (k + 1))) := Lib.hid (by unfold beatI; rw [if_pos hgt])
        clear hord hgt nb bb
        go_wp2_with fail
        refine (HN.out _).mono ?_
        rintro e w3 ⟨rfl, n, rfl⟩
        go_wp2
        go_roundw
        case rel => exact ⟨k + 1, by go_num, by omega, by rw [HB.out]; go_num, by rw [HB.out]; rfl, _, rfl⟩
        case measure => simp [intOf]; omega
      · have ho : (FloatKind.f64.format.order (fi (SAl l (k + 1) * SAl l (k + 1) + SBl l (k + 1) * SBl l (k + 1))) (fi (beatI l k).2) == some Ordering.gt) = false := by
          show (Ieee.double.order _ _ == some .gt) = false
          rw [hord]
          cases hc : compare (SAl l (k + 1) * SAl l (k + 1) + SBl l (k + 1) * SBl l (k + 1)) (beatI l k).2
          · rfl
          · rfl
          · exact absurd ((compare_int_gt _ _).1 hc) hgt
        have HB : Hid (beatI l (k + 1) = beatI l k) := Lib.hid (by show (if _ then _ else _) = _; rw [if_neg hgt])
        clear hord hgt nb bb
        go_wp2_with fail
        refine (HN.out _).mono ?_
        rintro e w3 ⟨rfl, n, rfl⟩
        go_wp2
        go_roundw
        case rel => exact ⟨k + 1, by go_num, by omega, by rw [HB.out], by rw [HB.out], _, rfl⟩
        case measure => simp [intOf]; omega
    · obtain rfl : k = 3 := by omega
      go_wp2
      go_ret2
      exact ⟨rfl, below_drewN B2 q⟩
set_option maxRecDepth 100000 in
set_option maxHeartbeats 2000000 in
theorem awake07 (w : World) : Calls Try.prog 16 #[] w fun e w' => e = .returned (.bool true) ∧ Below w.heap.size w w' := by
  have hl : ∀ t, t < 4 → 0 ≤ (fun t : Nat => if t = 0 then (5 : Int) else if t = 1 then 0 else if t = 2 then 5 else 0) t ∧ (fun t : Nat => if t = 0 then (5 : Int) else if t = 1 then 0 else if t = 2 then 5 else 0) t ≤ 1048576 := fun t ht => by
    rcases k4 ht with rfl | rfl | rfl | rfl <;> decide
  have HS := Lib.hid (fun w => spectrum_ok _ w hl)
  have HB := Lib.hid (fun w => beat_ok _ w hl)
  have f0 : fi (SAl (fun t : Nat => if t = 0 then (5 : Int) else if t = 1 then 0 else if t = 2 then 5 else 0) 0) = 4621819117588971520 ∧ fi (SBl (fun t : Nat => if t = 0 then (5 : Int) else if t = 1 then 0 else if t = 2 then 5 else 0) 0) = 0 := by decide +kernel
  have f1 : fi (SAl (fun t : Nat => if t = 0 then (5 : Int) else if t = 1 then 0 else if t = 2 then 5 else 0) 1) = 0 ∧ fi (SBl (fun t : Nat => if t = 0 then (5 : Int) else if t = 1 then 0 else if t = 2 then 5 else 0) 1) = 0 := by decide +kernel
  have f2 : fi (SAl (fun t : Nat => if t = 0 then (5 : Int) else if t = 1 then 0 else if t = 2 then 5 else 0) 2) = 4621819117588971520 ∧ fi (SBl (fun t : Nat => if t = 0 then (5 : Int) else if t = 1 then 0 else if t = 2 then 5 else 0) 2) = 0 := by decide +kernel
  have f3 : fi (SAl (fun t : Nat => if t = 0 then (5 : Int) else if t = 1 then 0 else if t = 2 then 5 else 0) 3) = 0 ∧ fi (SBl (fun t : Nat => if t = 0 then (5 : Int) else if t = 1 then 0 else if t = 2 then 5 else 0) 3) = 0 := by decide +kernel
  have fb : (beatI (fun t : Nat => if t = 0 then (5 : Int) else if t = 1 then 0 else if t = 2 then 5 else 0) 3).1 = 2 := by decide +kernel
  simp only [f0.1, f0.2, f1.1, f1.2, f2.1, f2.2, f3.1, f3.2] at HS
  simp only [fb] at HB
  clear f0 f1 f2 f3 fb hl
  have HT : Hid (∀ w, Calls Try.prog 11 #[.complex .f64 4607182418800017408 0, .int .i64 1] w fun e w' => e = .returned (.complex .f64 9223372036854775808 4607182418800017408) ∧ Below w.heap.size w w') := Lib.hid (fun w => turn_any 4607182418800017408 0 1 w 1 rfl (by omega))
  have o1 : (FloatKind.f64.format.order 4621819117588971520 4621819117588971520 == some Ordering.eq) = true := by decide +kernel
  have o2 : (FloatKind.f64.format.order 0 0 == some Ordering.eq) = true := by decide +kernel
  have o3 : (FloatKind.f64.format.order 9223372036854775808 0 == some Ordering.eq) = true := by decide +kernel
  have o4 : (FloatKind.f64.format.order 4607182418800017408 4607182418800017408 == some Ordering.eq) = true := by decide +kernel
  go_enter Try.func16, Try.ntmps16
  go_wp2_with fail
  refine (HS.out _).mono ?_
  rintro e w1 ⟨rfl, b1⟩
  go_wp2_with fail
  refine (HB.out _).mono ?_
  rintro e w2 ⟨rfl, b2⟩
  have c0 := (b2.cell (p := ⟨w1.heap.size, 0, none⟩) (by simp)).trans (by simp : _ = some (.complex .f64 4621819117588971520 0))
  have c1 := (b2.cell (p := ⟨w1.heap.size, 1, none⟩) (by simp)).trans (by simp : _ = some (.complex .f64 0 0))
  have c2 := (b2.cell (p := ⟨w1.heap.size, 2, none⟩) (by simp)).trans (by simp : _ = some (.complex .f64 4621819117588971520 0))
  have c3 := (b2.cell (p := ⟨w1.heap.size, 3, none⟩) (by simp)).trans (by simp : _ = some (.complex .f64 0 0))
  have B1 : Below w.heap.size w (w1.alloc (.cells #[.complex .f64 4621819117588971520 0, .complex .f64 0 0, .complex .f64 4621819117588971520 0, .complex .f64 0 0] 47)) := b1.alloc b1.size _
  have B2 := B1.trans (b2.mono B1.size)
  go_wp2_with fail
  refine (HT.out _).mono ?_
  rintro e w3 ⟨rfl, b3⟩
  have B3 := B2.trans (b3.mono B2.size)
  go_wp2
  go_ret
  exact ⟨rfl, B3⟩
end Go.Proofs.Ytlhcbbcgnkpknaa
