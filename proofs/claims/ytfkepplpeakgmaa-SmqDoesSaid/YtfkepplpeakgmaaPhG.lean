/- Contracts (cellaret): a spectrum that there is not, the beat; what must come at any rate. -/
import Derived.Test.YtfkepplpeakgmaaPhF
namespace Go.Proofs.Ytfkepplpeakgmaa
open Go.RowKit
set_option linter.unusedVariables false
attribute [local go_sem] unary_negf run_store_complex run_store_float
attribute [local go_sem ↓] Go.wp_at_zero Go.wp_at_succ

set_option maxRecDepth 100000 in
set_option maxHeartbeats 2000000 in
theorem spectrum_no (l : Nat → Int) (w : World) (i : Nat) (hi : i < 4) (hl : ∀ t, t < i → 0 ≤ l t ∧ l t ≤ 1048576) (hb : ¬ (0 ≤ l i ∧ l i ≤ 1048576)) :
    Calls Try.prog 63 #[.agg #[.int .i64 (l 0), .int .i64 (l 1), .int .i64 (l 2), .int .i64 (l 3)]] w fun e w' =>
      e = .returned (.tuple #[.agg #[.complex .f64 0 0, .complex .f64 0 0, .complex .f64 0 0, .complex .f64 0 0], .int .i64 2]) ∧ Below w.heap.size w w' := by
  obtain ⟨w3, HW, HR, HX, hsz, B3⟩ := spec_init l w
  have HL := Lib.hid hl
  have HBad := Lib.hid hb
  clear hl hb
  go_enter Try.func63, Try.ntmps63
  go_wp2
  rw [HW.out]
  clear HW
  generalize hg : w.heap.size + 1 + 1 = g at HX hsz ⊢
  go_loopw [8] (fun x9 wi => ∃ k : Nat, x9 = .int .i64 k ∧ k ≤ i ∧ Hid (OutAt wi g (partX l k)) ∧ Below g w3 wi) (fun x9 _ => 4 - (intOf x9).toNat)
  case atStart => exact ⟨0, rfl, by omega, HX, Below.refl _ _⟩
  case round =>
    obtain ⟨k, rfl, hk, HF, hbw⟩ := hrel
    clear HX
    have hlt : k < 4 := by omega
    have hli : (k : Int) < 4 := by omega
    have ix := index4i l k hlt
    by_cases hki : k < i
    · have c0 := HF.out.cells k hlt
      have f0 := HF.out.free k hlt
      have HC := Lib.hid (fun w => isCount_any (l k) w)
      rw [decide_eq_true (HL.out k hki)] at HC
      have HP : Hid (OutAt (wr.setCell ⟨g, k, none⟩ (.complex .f64 (fi (l k)) 0)) g (partX l (k + 1))) := Lib.hid ((HF.out.put k hlt (fi (l k)) 0).congr (fun j hj => by
        unfold partX
        by_cases e : j = k
        · subst e; simp
        · rw [if_neg e]
          by_cases e' : j < k
          · rw [if_pos e', if_pos (by omega)]
          · rw [if_neg e', if_neg (by omega)]))
      go_wp2_with fail
      refine (HC.out _).mono ?_
      rintro e w1 ⟨rfl, rfl⟩
      go_wp2
      go_roundw
      case rel => exact ⟨k + 1, by go_num, by omega, HP, hbw.setCell (p := ⟨g, k, none⟩) (Nat.le_refl _) _⟩
      case measure => simp [intOf]; omega
    · obtain rfl : k = i := by omega
      have HC := Lib.hid (fun w => isCount_any (l k) w)
      rw [decide_eq_false HBad.out] at HC
      have HR1 : OutAt wr (w.heap.size + 1) (fun _ => (0, 0)) := ⟨fun k hk => (hbw.cell (p := ⟨w.heap.size + 1, k, none⟩) (by show w.heap.size + 1 < g; omega)).trans (HR.out.cells k hk), fun k hk => (hbw.frozen (p := ⟨w.heap.size + 1, k, none⟩) (by show w.heap.size + 1 < g; omega)).trans (HR.out.free k hk), Nat.lt_of_lt_of_le HR.out.lt hbw.size⟩
      have hsw := hbw.size
      have hBB : Below w.heap.size w wr := B3.trans (hbw.mono (by omega))
      have r0 := HR1.cells 0 (by omega)
      have r1 := HR1.cells 1 (by omega)
      have r2 := HR1.cells 2 (by omega)
      have r3 := HR1.cells 3 (by omega)
      have s0 := HR1.free 0 (by omega)
      have s1 := HR1.free 1 (by omega)
      have s2 := HR1.free 2 (by omega)
      have s3 := HR1.free 3 (by omega)
      clear HR1
      go_wp2_with fail
      refine (HC.out _).mono ?_
      rintro e w1 ⟨rfl, rfl⟩
      go_wp2
      refine bodyPost_ret (v := .tuple #[.agg #[.complex .f64 0 0, .complex .f64 0 0, .complex .f64 0 0, .complex .f64 0 0], .int .i64 2]) (by simp [results, Try.results63, go_sem, r0, r1, r2, r3]) rfl ⟨rfl, ?_⟩
      exact (((hBB.setCell (p := ⟨w.heap.size + 1, 0, none⟩) (by show w.heap.size ≤ w.heap.size + 1; omega) _).setCell (p := ⟨w.heap.size + 1, 1, none⟩) (by show w.heap.size ≤ w.heap.size + 1; omega) _).setCell (p := ⟨w.heap.size + 1, 2, none⟩) (by show w.heap.size ≤ w.heap.size + 1; omega) _).setCell (p := ⟨w.heap.size + 1, 3, none⟩) (by show w.heap.size ≤ w.heap.size + 1; omega) _
def NI (l : Nat → Int) (k : Nat) : Int := SAl l k * SAl l k + SBl l k * SBl l k
theorem NI_abs (l : Nat → Int) (k : Nat) (hl : ∀ t, t < 4 → 0 ≤ l t ∧ l t ≤ 1048576) : (SAl l k).natAbs ≤ 4194304 ∧ (SBl l k).natAbs ≤ 4194304 ∧ 0 ≤ NI l k ∧ NI l k ≤ 35184372088832 := by
  obtain ⟨h1, h2⟩ := S_abs (-1) (fun t => (l t, 0)) k 1048576 (fun t ht => ⟨by have := hl t ht; show (l t).natAbs ≤ _; omega, by show (0 : Int).natAbs ≤ _; omega⟩)
  have sq : ∀ x : Int, x.natAbs ≤ 4194304 → 0 ≤ x * x ∧ x * x ≤ 17592186044416 := fun x hx => by
    have e := Int.natAbs_mul_self (a := x)
    have := Nat.mul_le_mul hx hx
    omega
  have a1 : (SAl l k).natAbs ≤ 4194304 := h1
  have a2 : (SBl l k).natAbs ≤ 4194304 := h2
  have s1 := sq _ a1
  have s2 := sq _ a2
  refine ⟨a1, a2, ?_, ?_⟩
  · show 0 ≤ SAl l k * SAl l k + SBl l k * SBl l k; omega
  · show SAl l k * SAl l k + SBl l k * SBl l k ≤ _; omega
/-- The beat up to some k, and its square. -/
def beatI (l : Nat → Int) : Nat → Int × Int
  | 0 => (0, 0)
  | k + 1 => if (beatI l k).2 < NI l (k + 1) then ((k + 1 : Nat), NI l (k + 1)) else beatI l k
theorem beatI_bd (l : Nat → Int) (hl : ∀ t, t < 4 → 0 ≤ l t ∧ l t ≤ 1048576) (k : Nat) : 0 ≤ (beatI l k).1 ∧ (beatI l k).1 ≤ k ∧ 0 ≤ (beatI l k).2 ∧ (beatI l k).2 ≤ 35184372088832 := by
  induction k with
  | zero => show (0 : Int) ≤ 0 ∧ (0 : Int) ≤ ((0 : Nat) : Int) ∧ (0 : Int) ≤ 0 ∧ (0 : Int) ≤ 35184372088832; omega
  | succ k ih =>
    have := NI_abs l (k + 1) hl
    unfold beatI
    split
    · exact ⟨by show (0 : Int) ≤ ((k + 1 : Nat) : Int); omega, by show ((k + 1 : Nat) : Int) ≤ ((k + 1 : Nat) : Int); omega, this.2.2.1, this.2.2.2⟩
    · exact ⟨ih.1, by have := ih.2.1; omega, ih.2.2.1, ih.2.2.2⟩
end Go.Proofs.Ytfkepplpeakgmaa
