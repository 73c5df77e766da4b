/- Contracts (cellaret): waves. -/
import Derived.Test.YtfkepplpeakgmaaPhC
import Derived.Deep.DrawnRows
import Derived.Deep.RegionLaw
namespace Go.Proofs.Ytfkepplpeakgmaa
open Go.RowKit
set_option linter.unusedVariables false
attribute [local go_sem] unary_negf run_store_complex run_store_float
attribute [local go_sem ↓] Go.wp_at_zero Go.wp_at_succ

theorem below_drewN {B : Nat} {a w : World} (h : Below B a w) (n : Nat) : Below B a (w.drewN n) := ⟨h.os, h.tape, h.output, h.size, h.block⟩
/-- The sums so far: those ahead of k whole, the k-th up to t. -/
def Sums (zs : Nat → Nat → Nat × Nat) (k t : Nat) (F : Nat → Nat × Nat) : Prop :=
  ∀ j, j < 4 → Chain (zs j) (if j < k then 4 else if j = k then t else 0) (F j)
theorem Sums.next {zs : Nat → Nat → Nat × Nat} {k t : Nat} {F : Nat → Nat × Nat} (h : Sums zs k t F) (hk : k < 4) (r s : Nat) (h1 : FAns (fadd (F k).1 (zs k t).1) r) (h2 : FAns (fadd (F k).2 (zs k t).2) s) : Sums zs k (t + 1) (fun j => if j = k then (r, s) else F j) := by
  intro j hj
  have := h j hj
  by_cases e : j = k
  · subst e
    simp only [Nat.lt_irrefl, if_false, if_true] at *
    exact ⟨F j, this, h1, h2⟩
  · simp only [if_neg e] at *
    exact this
theorem Sums.over {zs : Nat → Nat → Nat × Nat} {k : Nat} {F : Nat → Nat × Nat} (h : Sums zs k 4 F) : Sums zs (k + 1) 0 F := by
  intro j hj
  have := h j hj
  by_cases e : j < k
  · rw [if_pos e] at this
    rw [if_pos (by omega)]
    exact this
  · by_cases e' : j = k
    · rw [if_neg e, if_pos e'] at this
      rw [if_pos (by omega)]
      exact this
    · rw [if_neg e, if_neg e'] at this
      rw [if_neg (by omega)]
      split <;> exact this
theorem Sums.start (zs : Nat → Nat → Nat × Nat) : Sums zs 0 0 (fun _ => (0, 0)) := by
  intro j hj
  rw [if_neg (by omega)]
  split <;> rfl
set_option maxRecDepth 100000 in
set_option maxHeartbeats 2000000 in
theorem waves_any (x : Nat → Nat × Nat) (by_ : Int) (w : World) (hb : by_ = 1 ∨ by_ = -1) :
    Calls Try.prog 65 #[.agg #[.complex .f64 (x 0).1 (x 0).2, .complex .f64 (x 1).1 (x 1).2, .complex .f64 (x 2).1 (x 2).2, .complex .f64 (x 3).1 (x 3).2], .int .i64 by_] w fun e w' =>
      ∃ F : Nat → Nat × Nat, e = .returned (.agg #[.complex .f64 (F 0).1 (F 0).2, .complex .f64 (F 1).1 (F 1).2, .complex .f64 (F 2).1 (F 2).2, .complex .f64 (F 3).1 (F 3).2]) ∧ (∀ k, k < 4 → Chain (wave x by_ k) 4 (F k)) ∧ Below w.heap.size w w' := by
  have hb1 : -1 ≤ by_ ∧ by_ ≤ 1 := by omega
  have HB := Lib.hid hb
  clear hb
  obtain ⟨w3, HW, HX, HO, HR, hsz, B3⟩ : ∃ w3, Hid (((w.alloc (.cells #[.complex .f64 (x 0).1 (x 0).2, .complex .f64 (x 1).1 (x 1).2, .complex .f64 (x 2).1 (x 2).2, .complex .f64 (x 3).1 (x 3).2] 89)).alloc (.cells #[.complex .f64 0 0, .complex .f64 0 0, .complex .f64 0 0, .complex .f64 0 0] 89)).alloc (.cells #[.complex .f64 0 0, .complex .f64 0 0, .complex .f64 0 0, .complex .f64 0 0] 89) = w3) ∧
      Hid (OutAt w3 w.heap.size x) ∧ Hid (OutAt w3 (w.heap.size + 1 + 1) (fun _ => (0, 0))) ∧ Hid (w3.heap[w.heap.size + 1]? = some (.cells #[.complex .f64 0 0, .complex .f64 0 0, .complex .f64 0 0, .complex .f64 0 0] 89 (0, 0))) ∧ w3.heap.size = w.heap.size + 1 + 1 + 1 ∧ Below w.heap.size w w3 := by
    refine ⟨_, Lib.hid rfl, Lib.hid ⟨fun k hk => ?_, fun k hk => ?_, by simp; omega⟩, Lib.hid ⟨fun k hk => ?_, fun k hk => ?_, by simp⟩, Lib.hid ?_, by simp, (((Below.refl _ _).alloc (Nat.le_refl _) _).alloc (by simp) _).alloc (by simp; omega) _⟩
    · rcases k4 hk with rfl | rfl | rfl | rfl <;> simp [go_sem]
    · rcases k4 hk with rfl | rfl | rfl | rfl <;> simp [go_sem]
    · rcases k4 hk with rfl | rfl | rfl | rfl <;> simp [go_sem]
    · rcases k4 hk with rfl | rfl | rfl | rfl <;> simp [go_sem]
    · generalize hA : w.alloc (.cells #[.complex .f64 (x 0).1 (x 0).2, .complex .f64 (x 1).1 (x 1).2, .complex .f64 (x 2).1 (x 2).2, .complex .f64 (x 3).1 (x 3).2] 89) = A
      have hAs : A.heap.size = w.heap.size + 1 := by rw [← hA]; simp
      rw [← hAs, heap_alloc_old _ _ (by simp), heap_alloc_new]
  go_enter Try.func65, Try.ntmps65
  go_wp2
  rw [HW.out]
  clear HW
  generalize hg : w.heap.size + 1 + 1 = g at HO hsz ⊢
  go_loopw [9] (fun x9 wi => ∃ k : Nat, x9 = .int .i64 k ∧ k ≤ 4 ∧ (∃ F, Hid (OutAt wi g F) ∧ Hid (Sums (wave x by_) k 0 F)) ∧ Below g w3 wi) (fun x9 _ => 4 - (intOf x9).toNat)
  case atStart => exact ⟨0, rfl, by omega, ⟨_, HO, Lib.hid (Sums.start _)⟩, Below.refl _ _⟩
  case round =>
    obtain ⟨k, rfl, hk, ⟨F, HF, HS⟩, hbw⟩ := hrel
    clear HO
    by_cases hlt : k < 4
    · have hx := HX.out.cells
      have x0 := (hbw.cell (p := ⟨w.heap.size, 0, none⟩) (by show w.heap.size < g; omega)).trans (hx 0 (by omega))
      have x1 := (hbw.cell (p := ⟨w.heap.size, 1, none⟩) (by show w.heap.size < g; omega)).trans (hx 1 (by omega))
      have x2 := (hbw.cell (p := ⟨w.heap.size, 2, none⟩) (by show w.heap.size < g; omega)).trans (hx 2 (by omega))
      have x3 := (hbw.cell (p := ⟨w.heap.size, 3, none⟩) (by show w.heap.size < g; omega)).trans (hx 3 (by omega))
      have hli : (k : Int) < 4 := by omega
      clear hx
      go_wp2
      obtain ⟨wo, rfl⟩ : ∃ wo : World, wo = wr := ⟨_, rfl⟩
      clear x0 x1 x2 x3
      go_loopw [13] (fun x9 wi => ∃ t : Nat, x9 = .int .i64 t ∧ t ≤ 4 ∧ (∃ F, Hid (OutAt wi g F) ∧ Hid (Sums (wave x by_) k t F)) ∧ Below g w3 wi) (fun x9 _ => 4 - (intOf x9).toNat)
      case atStart => exact ⟨0, rfl, by omega, ⟨_, HF, HS⟩, hbw⟩
      case round =>
        obtain ⟨t, rfl, ht, ⟨F, HF, HS⟩, hbw⟩ := hrel
        by_cases hlt2 : t < 4
        · have hlt' : (t : Int) < 4 := by omega
          have iy := index4c x t hlt2
          have c0 := HF.out.cells k hlt
          have f0 := HF.out.free k hlt
          have hgs := HF.out.lt
          have HN := Lib.hid (fun r s => HS.out.next (t := t) hlt r s)
          have e0 : wave x by_ k t = turnF (qrt by_ k t) (x t) := rfl
          rw [e0] at HN
          have hq := qrt_eq by_ k t
          obtain ⟨m1, hm1⟩ : ∃ m, by_ * (k : Int) = m := ⟨_, rfl⟩
          obtain ⟨m2, hm2⟩ : ∃ m, m1 * (t : Int) = m := ⟨_, rfl⟩
          rw [hm1, hm2] at hq
          have b1 : -3 ≤ m1 ∧ m1 ≤ 3 := by
            rcases HB.out with h | h <;> rw [h] at hm1 <;> omega
          have b2 : -9 ≤ m2 ∧ m2 ≤ 9 := by
            rw [← hm2]
            rcases k4 hlt2 with rfl | rfl | rfl | rfl <;> omega
          have HT := Lib.hid (fun w => turn_exact (x t).1 (x t).2 m2 w (qrt by_ k t) hq (by omega))
          have e1 : IntKind.i64.wrap (by_ * (k : Int)) = m1 := by rw [hm1]; exact IntWalk.i64_in _ (by omega)
          have e2 : IntKind.i64.wrap (m1 * (t : Int)) = m2 := by rw [hm2]; exact IntWalk.i64_in _ (by omega)
          clear hm1 hm2 hq e0
          go_wp2
          go_region_law ((first | (go_simp; go_at_call 67; refine (HT.out _).mono ?_; rintro e w' ⟨rfl, rfl⟩) | (go_simp; go_at_call 66; refine (sum_any _ _ _ _ _).mono ?_; rintro e w' ⟨r, s, n, rfl, hr, hs, rfl⟩)))
          all_goals
            go_wp2
            go_roundw
            case rel => exact ⟨t + 1, by go_num, by omega, ⟨_, Lib.hid (((HF.out.below ((Below.refl _ _).alloc (Nat.le_refl _) _)).drewN _).put k hlt r s), Lib.hid (HN.out r s hr hs)⟩, (below_drewN (hbw.alloc (by have := hbw.size; omega) _) _).setCell (p := ⟨g, k, none⟩) (Nat.le_refl _) _⟩
            case measure => simp [intOf]; omega
        · obtain rfl : t = 4 := by omega
          go_wp2
          go_roundw
          case rel => exact ⟨k + 1, by go_num, by omega, ⟨F, HF, Lib.hid HS.out.over⟩, hbw⟩
          case measure => simp [intOf]; omega
    · obtain rfl : k = 4 := by omega
      have HS' := Lib.hid (fun j (hj : j < 4) => HS.out j hj)
      clear HS
      have g0 := HF.out.cells 0 (by omega)
      have g1 := HF.out.cells 1 (by omega)
      have g2 := HF.out.cells 2 (by omega)
      have g3 := HF.out.cells 3 (by omega)
      have hsw := hbw.size
      have hR2 : Hid (wr.heap[w.heap.size + 1]? = some (.cells #[.complex .f64 0 0, .complex .f64 0 0, .complex .f64 0 0, .complex .f64 0 0] 89 (0, 0))) := Lib.hid ((hbw.block _ (by omega)).trans HR.out)
      have hr : ∀ k, k < 4 → wr.cell? ⟨w.heap.size + 1, k, none⟩ = some (.complex .f64 0 0) ∧ wr.frozen? ⟨w.heap.size + 1, k, none⟩ = false := fun k hk => by
        rcases k4 hk with rfl | rfl | rfl | rfl <;> simp [World.cell?, World.frozen?, hR2.out]
      obtain ⟨r0, s0⟩ := hr 0 (by omega)
      obtain ⟨r1, s1⟩ := hr 1 (by omega)
      obtain ⟨r2, s2⟩ := hr 2 (by omega)
      obtain ⟨r3, s3⟩ := hr 3 (by omega)
      have hBB : Below w.heap.size w wr := B3.trans (hbw.mono (by omega))
      clear hr
      go_wp2
      have hh3 := heap_setCell_same _ _ 3 _ _ (.complex .f64 (F 3).1 (F 3).2) (heap_setCell_same _ _ 2 _ _ (.complex .f64 (F 2).1 (F 2).2) (heap_setCell_same _ _ 1 _ _ (.complex .f64 (F 1).1 (F 1).2) (heap_setCell_same wr _ 0 _ _ (.complex .f64 (F 0).1 (F 0).2) hR2.out)))
      refine bodyPost_ret_by (results_cell_row rfl _ _ (w.heap.size + 1) 89 #[.complex .f64 (F 0).1 (F 0).2, .complex .f64 (F 1).1 (F 1).2, .complex .f64 (F 2).1 (F 2).2, .complex .f64 (F 3).1 (F 3).2] (0, 0) _ rfl hh3 Try.underlying89 rfl (by kernel_rfl)) rfl ⟨F, rfl, fun j hj => ?_, ?_⟩
      · have := HS'.out j hj
        rwa [if_pos hj] at this
      · exact (((hBB.setCell (p := ⟨w.heap.size + 1, 0, none⟩) (by show w.heap.size ≤ w.heap.size + 1; omega) _).setCell (p := ⟨w.heap.size + 1, 1, none⟩) (by show w.heap.size ≤ w.heap.size + 1; omega) _).setCell (p := ⟨w.heap.size + 1, 2, none⟩) (by show w.heap.size ≤ w.heap.size + 1; omega) _).setCell (p := ⟨w.heap.size + 1, 3, none⟩) (by show w.heap.size ≤ w.heap.size + 1; omega) _
end Go.Proofs.Ytfkepplpeakgmaa
