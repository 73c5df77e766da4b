/- Contracts (cellaret): the spectrum of counts. -/
import Derived.Test.YtfkepplpeakgmaaPhD
import Derived.Test.YtfkepplpeakgmaaPhN
namespace Go.Proofs.Ytfkepplpeakgmaa
open Go.RowKit
set_option linter.unusedVariables false
attribute [local go_sem] unary_negf run_store_complex run_store_float
attribute [local go_sem ↓] Go.wp_at_zero Go.wp_at_succ

def turnI : Nat → Int × Int → Int × Int
  | 0, z => z
  | n + 1, z => (-(turnI n z).2, (turnI n z).1)
def sumI (a : Nat → Int) : Nat → Int
  | 0 => 0
  | t + 1 => sumI a t + a t
theorem turn_val (n : Nat) (z : Nat × Nat) (m : Int × Int) (h1 : isFin z.1 = true) (h2 : isFin z.2 = true) (h3 : Val z.1 m.1) (h4 : Val z.2 m.2) :
    isFin (turnF n z).1 = true ∧ isFin (turnF n z).2 = true ∧ Val (turnF n z).1 (turnI n m).1 ∧ Val (turnF n z).2 (turnI n m).2 := by
  induction n with
  | zero => exact ⟨h1, h2, h3, h4⟩
  | succ n ih =>
    obtain ⟨i1, i2, i3, i4⟩ := ih
    exact ⟨by show isFin (fneg _) = true; rw [fneg_fin]; exact i2, i1, fneg_Val i4 i2, i3⟩
theorem turnI_abs (n : Nat) (m : Int × Int) (B : Nat) (h1 : m.1.natAbs ≤ B) (h2 : m.2.natAbs ≤ B) : (turnI n m).1.natAbs ≤ B ∧ (turnI n m).2.natAbs ≤ B := by
  induction n with
  | zero => exact ⟨h1, h2⟩
  | succ n ih => exact ⟨by show (-_ : Int).natAbs ≤ B; rw [Int.natAbs_neg]; exact ih.2, ih.1⟩
theorem sumI_abs (a : Nat → Int) (B : Nat) (t : Nat) (h : ∀ i, i < t → (a i).natAbs ≤ B) : (sumI a t).natAbs ≤ t * B := by
  induction t with
  | zero => show (0 : Int).natAbs ≤ _; omega
  | succ t ih =>
    have h1 := ih (fun i hi => h i (by omega))
    have h2 := h t (by omega)
    have h3 := Int.natAbs_add_le (sumI a t) (a t)
    show (sumI a t + a t).natAbs ≤ _
    rw [Nat.succ_mul]
    omega
theorem chain_int {zs : Nat → Nat × Nat} {a b : Nat → Int} {t : Nat} {z : Nat × Nat} (B : Nat) (hB : t * B < 9007199254740992) (h : Chain zs t z) (ha : ∀ i, i < t → Val (zs i).1 (a i) ∧ (a i).natAbs ≤ B) (hb : ∀ i, i < t → Val (zs i).2 (b i) ∧ (b i).natAbs ≤ B) :
    z = (fi (sumI a t), fi (sumI b t)) := by
  induction t generalizing z with
  | zero => cases h; show (0, 0) = (fi 0, fi 0); rw [fi_zero]
  | succ t ih =>
    obtain ⟨y, h0, h1, h2⟩ := h
    rw [Nat.succ_mul] at hB
    have hy := ih (by omega) h0 (fun i hi => ha i (by omega)) (fun i hi => hb i (by omega))
    subst hy
    have la := sumI_abs a B t (fun i hi => (ha i (by omega)).2)
    have lb := sumI_abs b B t (fun i hi => (hb i (by omega)).2)
    have la' := sumI_abs a B (t + 1) (fun i hi => (ha i (by omega)).2)
    have lb' := sumI_abs b B (t + 1) (fun i hi => (hb i (by omega)).2)
    rw [Nat.succ_mul] at la' lb'
    have e1 := add_fi (m := sumI a t) (by omega) (show (sumI a t + a t).natAbs < _ from Nat.lt_of_le_of_lt la' (by omega)) (ha t (by omega)).1
    have e2 := add_fi (m := sumI b t) (by omega) (show (sumI b t + b t).natAbs < _ from Nat.lt_of_le_of_lt lb' (by omega)) (hb t (by omega)).1
    have f1 := h1.of (v := fi (sumI a t + a t)) e1
    have f2 := h2.of (v := fi (sumI b t + b t)) e2
    show z = (fi (sumI a t + a t), fi (sumI b t + b t))
    rw [← f1, ← f2]
def SA (by_ : Int) (x : Nat → Int × Int) (k : Nat) : Int := sumI (fun t => (turnI (qrt by_ k t) (x t)).1) 4
def SB (by_ : Int) (x : Nat → Int × Int) (k : Nat) : Int := sumI (fun t => (turnI (qrt by_ k t) (x t)).2) 4
theorem S_abs (by_ : Int) (x : Nat → Int × Int) (k B : Nat) (h : ∀ t, t < 4 → (x t).1.natAbs ≤ B ∧ (x t).2.natAbs ≤ B) : (SA by_ x k).natAbs ≤ 4 * B ∧ (SB by_ x k).natAbs ≤ 4 * B :=
  ⟨sumI_abs _ B 4 (fun t ht => (turnI_abs _ _ B (h t ht).1 (h t ht).2).1), sumI_abs _ B 4 (fun t ht => (turnI_abs _ _ B (h t ht).1 (h t ht).2).2)⟩
theorem wave_int (by_ : Int) (x : Nat → Int × Int) (k B : Nat) (z : Nat × Nat) (hB : 4 * B < 9007199254740992) (h : ∀ t, t < 4 → (x t).1.natAbs ≤ B ∧ (x t).2.natAbs ≤ B) (hz : Chain (wave (fun t => (fi (x t).1, fi (x t).2)) by_ k) 4 z) : z = (fi (SA by_ x k), fi (SB by_ x k)) := by
  have key : ∀ t, t < 4 → Val (wave (fun t => (fi (x t).1, fi (x t).2)) by_ k t).1 (turnI (qrt by_ k t) (x t)).1 ∧ Val (wave (fun t => (fi (x t).1, fi (x t).2)) by_ k t).2 (turnI (qrt by_ k t) (x t)).2 := fun t ht => by
    have b1 := (h t ht).1
    have b2 := (h t ht).2
    have := turn_val (qrt by_ k t) (fi (x t).1, fi (x t).2) (x t) (fi_fin (by omega)) (fi_fin (by omega)) (fi_Val (by omega)) (fi_Val (by omega))
    exact ⟨this.2.2.1, this.2.2.2⟩
  exact chain_int B (by omega) hz (fun t ht => ⟨(key t ht).1, (turnI_abs _ _ B (h t ht).1 (h t ht).2).1⟩) (fun t ht => ⟨(key t ht).2, (turnI_abs _ _ B (h t ht).1 (h t ht).2).2⟩)
def SAl (l : Nat → Int) (k : Nat) : Int := SA (-1) (fun t => (l t, 0)) k
def SBl (l : Nat → Int) (k : Nat) : Int := SB (-1) (fun t => (l t, 0)) k
theorem isCount_any (n : Int) (w : World) : Calls Try.prog 64 #[.int .i64 n] w fun e w' => e = .returned (.bool (decide (0 ≤ n ∧ n ≤ 1048576))) ∧ w = w' := by
  by_cases h1 : 0 ≤ n
  · by_cases h2 : n ≤ 1048576
    · have HE := Lib.hid (show decide (0 ≤ n ∧ n ≤ 1048576) = true from decide_eq_true ⟨h1, h2⟩)
      go_enter Try.func64, Try.ntmps64
      go_wp2
      go_ret
      exact ⟨by simp; try omega, rfl⟩
    · have HE := Lib.hid (show decide (0 ≤ n ∧ n ≤ 1048576) = false from decide_eq_false (by omega))
      go_enter Try.func64, Try.ntmps64
      go_wp2
      go_ret
      exact ⟨by simp; try omega, rfl⟩
  · have HE := Lib.hid (show decide (0 ≤ n ∧ n ≤ 1048576) = false from decide_eq_false (by omega))
    go_enter Try.func64, Try.ntmps64
    go_wp2
    go_ret
    exact ⟨by simp; try omega, rfl⟩
theorem index4i (l : Nat → Int) (i : Nat) (hi : i < 4) (w : World) : (Instr.index 49 (.agg #[.int .i64 (l 0), .int .i64 (l 1), .int .i64 (l 2), .int .i64 (l 3)]) (.int .i64 (i : Int))).run Try.prog w = .ok (.int .i64 (l i)) w := by
  have h0 : ∀ (a b c d : Int) w, (Instr.index 49 (.agg #[.int .i64 a, .int .i64 b, .int .i64 c, .int .i64 d]) (.int .i64 0)).run Try.prog w = .ok (.int .i64 a) w := fun _ _ _ _ _ => by kernel_rfl
  have h1 : ∀ (a b c d : Int) w, (Instr.index 49 (.agg #[.int .i64 a, .int .i64 b, .int .i64 c, .int .i64 d]) (.int .i64 1)).run Try.prog w = .ok (.int .i64 b) w := fun _ _ _ _ _ => by kernel_rfl
  have h2 : ∀ (a b c d : Int) w, (Instr.index 49 (.agg #[.int .i64 a, .int .i64 b, .int .i64 c, .int .i64 d]) (.int .i64 2)).run Try.prog w = .ok (.int .i64 c) w := fun _ _ _ _ _ => by kernel_rfl
  have h3 : ∀ (a b c d : Int) w, (Instr.index 49 (.agg #[.int .i64 a, .int .i64 b, .int .i64 c, .int .i64 d]) (.int .i64 3)).run Try.prog w = .ok (.int .i64 d) w := fun _ _ _ _ _ => by kernel_rfl
  rcases k4 hi with rfl | rfl | rfl | rfl
  · exact h0 _ _ _ _ w
  · exact h1 _ _ _ _ w
  · exact h2 _ _ _ _ w
  · exact h3 _ _ _ _ w
theorem OutAt.congr {w : World} {g : Nat} {F G : Nat → Nat × Nat} (h : OutAt w g F) (e : ∀ k, k < 4 → F k = G k) : OutAt w g G := ⟨fun k hk => by rw [h.cells k hk, e k hk], h.free, h.lt⟩
def partX (l : Nat → Int) (i t : Nat) : Nat × Nat := if t < i then (fi (l t), 0) else (0, 0)
/-- What memory holds when a spectrum's work begins. -/
theorem spec_init (l : Nat → Int) (w : World) : ∃ w3, Hid (((w.alloc (.cells #[.int .i64 (l 0), .int .i64 (l 1), .int .i64 (l 2), .int .i64 (l 3)] 49)).alloc (.cells #[.complex .f64 0 0, .complex .f64 0 0, .complex .f64 0 0, .complex .f64 0 0] 89)).alloc (.cells #[.complex .f64 0 0, .complex .f64 0 0, .complex .f64 0 0, .complex .f64 0 0] 89) = w3) ∧
      Hid (OutAt w3 (w.heap.size + 1) (fun _ => (0, 0))) ∧ Hid (OutAt w3 (w.heap.size + 1 + 1) (partX l 0)) ∧ w3.heap.size = w.heap.size + 1 + 1 + 1 ∧ Below w.heap.size w w3 := by
  refine ⟨_, Lib.hid rfl, Lib.hid ⟨fun k hk => ?_, fun k hk => ?_, by simp⟩, Lib.hid ⟨fun k hk => ?_, fun k hk => ?_, by simp⟩, by simp, (((Below.refl _ _).alloc (Nat.le_refl _) _).alloc (by simp) _).alloc (by simp; omega) _⟩
  all_goals (rcases k4 hk with rfl | rfl | rfl | rfl <;> simp [go_sem, partX])
set_option maxRecDepth 100000 in
set_option maxHeartbeats 2000000 in
theorem spectrum_ok (l : Nat → Int) (w : World) (hl : ∀ t, t < 4 → 0 ≤ l t ∧ l t ≤ 1048576) :
    Calls Try.prog 63 #[.agg #[.int .i64 (l 0), .int .i64 (l 1), .int .i64 (l 2), .int .i64 (l 3)]] w fun e w' =>
      e = .returned (.tuple #[.agg #[.complex .f64 (fi (SAl l 0)) (fi (SBl l 0)), .complex .f64 (fi (SAl l 1)) (fi (SBl l 1)), .complex .f64 (fi (SAl l 2)) (fi (SBl l 2)), .complex .f64 (fi (SAl l 3)) (fi (SBl l 3))], .int .i64 0]) ∧ Below w.heap.size w w' := by
  obtain ⟨w3, HW, HR, HX, hsz, B3⟩ := spec_init l w
  have HL := Lib.hid hl
  clear hl
  go_enter Try.func63, Try.ntmps63
  go_wp2
  rw [HW.out]
  clear HW
  generalize hg : w.heap.size + 1 + 1 = g at HX hsz ⊢
  go_loopw [8] (fun x9 wi => ∃ k : Nat, x9 = .int .i64 k ∧ k ≤ 4 ∧ Hid (OutAt wi g (partX l k)) ∧ Below g w3 wi) (fun x9 _ => 4 - (intOf x9).toNat)
  case atStart => exact ⟨0, rfl, by omega, HX, Below.refl _ _⟩
  case round =>
    obtain ⟨k, rfl, hk, HF, hbw⟩ := hrel
    clear HX
    by_cases hlt : k < 4
    · have hli : (k : Int) < 4 := by omega
      have ix := index4i l k hlt
      have c0 := HF.out.cells k hlt
      have f0 := HF.out.free k hlt
      have HC := Lib.hid (fun w => isCount_any (l k) w)
      rw [decide_eq_true (HL.out k hlt)] at HC
      have HP : Hid (OutAt (wr.setCell ⟨g, k, none⟩ (.complex .f64 (fi (l k)) 0)) g (partX l (k + 1))) := Lib.hid ((HF.out.put k hlt (fi (l k)) 0).congr (fun j hj => by
        unfold partX
        by_cases e : j = k
        · subst e; simp
        · rw [if_neg e]
          by_cases e' : j < k
          · rw [if_pos e', if_pos (by omega)]
          · rw [if_neg e', if_neg (by omega)]))
      go_wp2_with fail
      refine (HC.out _).mono ?_
      rintro e w1 ⟨rfl, rfl⟩
      go_wp2
      go_roundw
      case rel => exact ⟨k + 1, by go_num, by omega, HP, hbw.setCell (p := ⟨g, k, none⟩) (Nat.le_refl _) _⟩
      case measure => simp [intOf]; omega
    · obtain rfl : k = 4 := by omega
      have HY := Lib.hid (HF.out.congr (G := fun t => (fi (l t), fi 0)) (fun j hj => by rw [fi_zero]; exact if_pos hj))
      have g0 := HY.out.cells 0 (by omega)
      have g1 := HY.out.cells 1 (by omega)
      have g2 := HY.out.cells 2 (by omega)
      have g3 := HY.out.cells 3 (by omega)
      have HR1 : OutAt wr (w.heap.size + 1) (fun _ => (0, 0)) := ⟨fun k hk => (hbw.cell (p := ⟨w.heap.size + 1, k, none⟩) (by show w.heap.size + 1 < g; omega)).trans (HR.out.cells k hk), fun k hk => (hbw.frozen (p := ⟨w.heap.size + 1, k, none⟩) (by show w.heap.size + 1 < g; omega)).trans (HR.out.free k hk), Nat.lt_of_lt_of_le HR.out.lt hbw.size⟩
      have HR2 := Lib.hid HR1
      have hsw := hbw.size
      have hBB : Below w.heap.size w wr := B3.trans (hbw.mono (by omega))
      clear HF HR1
      go_wp2_with fail
      refine (waves_any (fun t => (fi (l t), fi 0)) (-1) _ (.inr rfl)).mono ?_
      rintro e w9 ⟨F, rfl, hF, b9⟩
      have hF' : ∀ k, k < 4 → F k = (fi (SAl l k), fi (SBl l k)) := fun k hk =>
        wave_int (-1) (fun t => (l t, 0)) k 1048576 (F k) (by omega) (fun t ht => ⟨by have := HL.out t ht; show (l t).natAbs ≤ _; omega, by show (0 : Int).natAbs ≤ _; omega⟩) (hF k hk)
      rw [hF' 0 (by omega), hF' 1 (by omega), hF' 2 (by omega), hF' 3 (by omega)]
      have R9 := HR2.out.below b9
      have r0 := R9.cells 0 (by omega)
      have r1 := R9.cells 1 (by omega)
      have r2 := R9.cells 2 (by omega)
      have r3 := R9.cells 3 (by omega)
      have s0 := R9.free 0 (by omega)
      have s1 := R9.free 1 (by omega)
      have s2 := R9.free 2 (by omega)
      have s3 := R9.free 3 (by omega)
      have hB9 := hBB.trans (b9.mono hBB.size)
      clear R9 hF hF' g0 g1 g2 g3
      go_wp2
      refine bodyPost_ret (v := .tuple #[.agg #[.complex .f64 (fi (SAl l 0)) (fi (SBl l 0)), .complex .f64 (fi (SAl l 1)) (fi (SBl l 1)), .complex .f64 (fi (SAl l 2)) (fi (SBl l 2)), .complex .f64 (fi (SAl l 3)) (fi (SBl l 3))], .int .i64 0]) (by simp [results, Try.results63, go_sem, r0, r1, r2, r3]) rfl ⟨rfl, ?_⟩
      exact (((hB9.setCell (p := ⟨w.heap.size + 1, 0, none⟩) (by show w.heap.size ≤ w.heap.size + 1; omega) _).setCell (p := ⟨w.heap.size + 1, 1, none⟩) (by show w.heap.size ≤ w.heap.size + 1; omega) _).setCell (p := ⟨w.heap.size + 1, 2, none⟩) (by show w.heap.size ≤ w.heap.size + 1; omega) _).setCell (p := ⟨w.heap.size + 1, 3, none⟩) (by show w.heap.size ≤ w.heap.size + 1; omega) _
end Go.Proofs.Ytfkepplpeakgmaa
