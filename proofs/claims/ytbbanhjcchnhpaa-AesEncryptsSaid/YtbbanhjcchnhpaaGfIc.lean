/- Contracts of package gf (cellaret): columns' products. -/
import Derived.Test.YtbbanhjcchnhpaaGfF
import Derived.Test.YtbbanhjcchnhpaaAeK
import Derived.Deep.RegionWith
import Derived.Laws.Rows
import Derived.Laws.NewBlocks
namespace Go.Proofs.Ytbbanhjcchnhpaa
open Go.RowKit Go.Deep
set_option linter.unusedVariables false

/-- The four sums behind so many products. -/
def colT (ps qs : Nat → Nat) : Nat → Nat → Nat
  | 0, _ => 0
  | t + 1, k => if k = (t / 4 + t % 4) % 4 then colT ps qs t k ^^^ gmul (ps (t / 4)) (qs (t % 4)) else colT ps qs t k
theorem colT_lt (ps qs : Nat → Nat) (h : ∀ i, ps i < 256) (t k : Nat) : colT ps qs t k < 256 := by
  induction t with
  | zero => show 0 < 256; omega
  | succ t ih =>
    unfold colT
    split
    · exact xor_lt _ _ ih (gmul_lt _ _ (h _))
    · exact ih
structure ColAt (w : World) (g : Nat) (f : Nat → Nat) : Prop where
  cells : ∀ k, k < 4 → w.cell? ⟨g, k, none⟩ = some (.int .u8 (f k : Int))
  free : ∀ k, k < 4 → w.frozen? ⟨g, k, none⟩ = false
  lt : g < w.heap.size
theorem ColAt.below {w w' : World} {g : Nat} {f : Nat → Nat} (h : ColAt w g f) (hb : Below w.heap.size w w') : ColAt w' g f :=
  ⟨fun k hk => (hb.cell (p := ⟨g, k, none⟩) h.lt).trans (h.cells k hk), fun k hk => (hb.frozen (p := ⟨g, k, none⟩) h.lt).trans (h.free k hk), Nat.lt_of_lt_of_le h.lt hb.size⟩
theorem ColAt.drew {w : World} {g : Nat} {f : Nat → Nat} (h : ColAt w g f) : ColAt w.drew g f := ⟨h.cells, h.free, h.lt⟩
theorem ColAt.put {w : World} {g : Nat} {ps qs : Nat → Nat} {t : Nat} (h : ColAt w g (colT ps qs t)) (k v : Nat) (hk : k < 4) (ht : (t / 4 + t % 4) % 4 = k) (hv : colT ps qs t k ^^^ gmul (ps (t / 4)) (qs (t % 4)) = v) : ColAt (w.setCell ⟨g, k, none⟩ (.int .u8 (v : Int))) g (colT ps qs (t + 1)) := by
  refine ⟨fun j hj => ?_, fun j hj => by rw [World.frozen?_setCell]; exact h.free j hj, by simpa [World.setCell] using h.lt⟩
  by_cases e : j = k
  · subst e
    have : colT ps qs (t + 1) j = v := by unfold colT; rw [if_pos ht.symm]; exact hv
    rw [this]
    exact World.cell?_setCell_same _ _ _ (h.cells j hj)
  · have : colT ps qs (t + 1) j = colT ps qs t j := by
      show (if j = (t / 4 + t % 4) % 4 then _ else _) = _
      rw [if_neg (by rw [ht]; exact e)]
    rw [this, World.cell?_setCell_other _ _ _ _ (by intro e'; simp only [Addr.mk.injEq] at e'; omega)]
    exact h.cells j hj

theorem index4 (f : Nat → Nat) (i : Nat) (hi : i < 4) (w : World) : (Instr.index 89 (.agg #[.int .u8 (f 0 : Int), .int .u8 (f 1 : Int), .int .u8 (f 2 : Int), .int .u8 (f 3 : Int)]) (.int .i64 (i : Int))).run Try.prog w = .ok (.int .u8 (f i : Int)) w := by
  have h0 : ∀ w, (Instr.index 89 (.agg #[.int .u8 (f 0 : Int), .int .u8 (f 1 : Int), .int .u8 (f 2 : Int), .int .u8 (f 3 : Int)]) (.int .i64 0)).run Try.prog w = .ok (.int .u8 (f 0 : Int)) w := fun _ => by kernel_rfl
  have h1 : ∀ w, (Instr.index 89 (.agg #[.int .u8 (f 0 : Int), .int .u8 (f 1 : Int), .int .u8 (f 2 : Int), .int .u8 (f 3 : Int)]) (.int .i64 1)).run Try.prog w = .ok (.int .u8 (f 1 : Int)) w := fun _ => by kernel_rfl
  have h2 : ∀ w, (Instr.index 89 (.agg #[.int .u8 (f 0 : Int), .int .u8 (f 1 : Int), .int .u8 (f 2 : Int), .int .u8 (f 3 : Int)]) (.int .i64 2)).run Try.prog w = .ok (.int .u8 (f 2 : Int)) w := fun _ => by kernel_rfl
  have h3 : ∀ w, (Instr.index 89 (.agg #[.int .u8 (f 0 : Int), .int .u8 (f 1 : Int), .int .u8 (f 2 : Int), .int .u8 (f 3 : Int)]) (.int .i64 3)).run Try.prog w = .ok (.int .u8 (f 3 : Int)) w := fun _ => by kernel_rfl
  have : i = 0 ∨ i = 1 ∨ i = 2 ∨ i = 3 := by omega
  rcases this with rfl | rfl | rfl | rfl
  · exact h0 w
  · exact h1 w
  · exact h2 w
  · exact h3 w
set_option maxRecDepth 100000 in
set_option maxHeartbeats 2000000 in
theorem column_raw (ps qs : Nat → Nat) (w : World) (ha : ∀ i, ps i < 256) (hb : ∀ i, qs i < 256) :
    Calls Try.prog 78 #[.agg #[.int .u8 (ps 0 : Int), .int .u8 (ps 1 : Int), .int .u8 (ps 2 : Int), .int .u8 (ps 3 : Int)], .agg #[.int .u8 (qs 0 : Int), .int .u8 (qs 1 : Int), .int .u8 (qs 2 : Int), .int .u8 (qs 3 : Int)]] w fun e w' =>
      e = .returned (.agg #[.int .u8 (colT ps qs 16 0 : Int), .int .u8 (colT ps qs 16 1 : Int), .int .u8 (colT ps qs 16 2 : Int), .int .u8 (colT ps qs 16 3 : Int)]) ∧ Below w.heap.size w w' := by
  have hw4 : ∃ w4, (((w.alloc (.cells #[.int .u8 (ps 0 : Int), .int .u8 (ps 1 : Int), .int .u8 (ps 2 : Int), .int .u8 (ps 3 : Int)] 89)).alloc (.cells #[.int .u8 (qs 0 : Int), .int .u8 (qs 1 : Int), .int .u8 (qs 2 : Int), .int .u8 (qs 3 : Int)] 89)).alloc (.cells #[.int .u8 0, .int .u8 0, .int .u8 0, .int .u8 0] 89)).alloc (.cells #[.int .u8 0, .int .u8 0, .int .u8 0, .int .u8 0] 89) = w4 := ⟨_, rfl⟩
  obtain ⟨w4, hw4⟩ := hw4
  have B0 : Below w.heap.size w w4 := by
    rw [← hw4]
    exact ((((Below.refl _ _).alloc (Nat.le_refl _) _).alloc (by simp) _).alloc (by simp; omega) _).alloc (by simp; omega) _
  have hsz : w4.heap.size = w.heap.size + 1 + 1 + 1 + 1 := by rw [← hw4]; simp [go_sem]
  have q0 : w4.cell? ⟨w.heap.size + 1, 0, none⟩ = some (.int .u8 (qs 0 : Int)) := by rw [← hw4]; simp [go_sem]
  have q1 : w4.cell? ⟨w.heap.size + 1, 1, none⟩ = some (.int .u8 (qs 1 : Int)) := by rw [← hw4]; simp [go_sem]
  have q2 : w4.cell? ⟨w.heap.size + 1, 2, none⟩ = some (.int .u8 (qs 2 : Int)) := by rw [← hw4]; simp [go_sem]
  have q3 : w4.cell? ⟨w.heap.size + 1, 3, none⟩ = some (.int .u8 (qs 3 : Int)) := by rw [← hw4]; simp [go_sem]
  have r : ∀ k, k < 4 → w4.cell? ⟨w.heap.size + 1 + 1, k, none⟩ = some (.int .u8 0) ∧ w4.frozen? ⟨w.heap.size + 1 + 1, k, none⟩ = false := fun k hk => by
    rw [← hw4]
    have : k = 0 ∨ k = 1 ∨ k = 2 ∨ k = 3 := by omega
    rcases this with rfl | rfl | rfl | rfl <;> simp [go_sem]
  have hC : Hid (ColAt w4 (w.heap.size + 1 + 1 + 1) (colT ps qs (4 * 0))) := Lib.hid ⟨fun k hk => by
    rw [← hw4]
    have : k = 0 ∨ k = 1 ∨ k = 2 ∨ k = 3 := by omega
    rcases this with rfl | rfl | rfl | rfl <;> simp [colT, go_sem], fun k hk => by
    rw [← hw4]
    have : k = 0 ∨ k = 1 ∨ k = 2 ∨ k = 3 := by omega
    rcases this with rfl | rfl | rfl | rfl <;> simp [go_sem], by omega⟩
  have hh : Hid (w4.heap[w.heap.size + 1 + 1]? = some (.cells #[.int .u8 0, .int .u8 0, .int .u8 0, .int .u8 0] 89 (0, 0))) := Lib.hid (by
    rw [← hw4]
    generalize hA : (w.alloc (.cells #[.int .u8 (ps 0 : Int), .int .u8 (ps 1 : Int), .int .u8 (ps 2 : Int), .int .u8 (ps 3 : Int)] 89)).alloc (.cells #[.int .u8 (qs 0 : Int), .int .u8 (qs 1 : Int), .int .u8 (qs 2 : Int), .int .u8 (qs 3 : Int)] 89) = A
    have hAs : A.heap.size = w.heap.size + 1 + 1 := by rw [← hA]; simp
    rw [← hAs, heap_alloc_old _ _ (by simp), heap_alloc_new])
  have HW := Lib.hid hw4
  have HR := Lib.hid r
  have HA := Lib.hid ha
  have HB := Lib.hid hb
  clear hw4 r ha hb
  go_enter Try.func78, Try.ntmps78
  go_wp2
  rw [HW.out]
  generalize hg : w.heap.size + 1 + 1 + 1 = g at hC hsz ⊢
  go_loopw [12] (fun x wi => ∃ i : Nat, x = .int .i64 i ∧ i ≤ 4 ∧ Hid (ColAt wi g (colT ps qs (4 * i))) ∧ Below g w4 wi) (fun x _ => 4 - (intOf x).toNat)
  case atStart => exact ⟨0, rfl, by omega, hC, Below.refl _ _⟩
  case round =>
    obtain ⟨i, rfl, hi, HC, hbw⟩ := hrel
    clear hC
    by_cases hlt : i < 4
    · have k0 := (hbw.cell (p := ⟨w.heap.size + 1, 0, none⟩) (by show w.heap.size + 1 < g; omega)).trans q0
      have k1 := (hbw.cell (p := ⟨w.heap.size + 1, 1, none⟩) (by show w.heap.size + 1 < g; omega)).trans q1
      have k2 := (hbw.cell (p := ⟨w.heap.size + 1, 2, none⟩) (by show w.heap.size + 1 < g; omega)).trans q2
      have k3 := (hbw.cell (p := ⟨w.heap.size + 1, 3, none⟩) (by show w.heap.size + 1 < g; omega)).trans q3
      have hli : (i : Int) < 4 := by omega
      have ix := index4 ps i hlt
      have hpi := HA.out i
      have HC' : Hid (ColAt wr g (colT ps qs (4 * i + 0))) := HC
      go_wp2
      obtain ⟨wo, rfl⟩ : ∃ wo : World, wo = wr := ⟨_, rfl⟩
      go_loopw [17] (fun x wi => ∃ j : Nat, x = .int .i64 j ∧ j ≤ 4 ∧ Hid (ColAt wi g (colT ps qs (4 * i + j))) ∧ Below g w4 wi) (fun x _ => 4 - (intOf x).toNat)
      case atStart => exact ⟨0, rfl, by omega, HC', hbw⟩
      case round =>
        obtain ⟨j, rfl, hj, HC2, hbw2⟩ := hrel
        by_cases hlt2 : j < 4
        · have hlj : (j : Int) < 4 := by omega
          have iy := index4 qs j hlt2
          have hqj := HB.out j
          obtain ⟨k, hk⟩ : ∃ k, (i + j) % 4 = k := ⟨_, rfl⟩
          have hk4 : k < 4 := by omega
          have e1 : ((i : Int) + (j : Int)) % 4 = (k : Int) := by omega
          have d1 : (4 * i + j) / 4 = i := by omega
          have d2 : (4 * i + j) % 4 = j := by omega
          have c0 := HC2.out.cells k hk4
          have f0 := HC2.out.free k hk4
          have hl := colT_lt ps qs HA.out (4 * i + j) k
          have HP := Lib.hid (fun v hv => HC2.out.put k v hk4 (by rw [d1, d2]; exact hk) (by rw [d1, d2]; exact hv))
          generalize colT ps qs (4 * i + j) k = c at c0 hl HP
          have HM := Lib.hid (fun w => mul_any (ps i) (qs j) w hpi hqj)
          have hgm := gmul_lt (ps i) (qs j) hpi
          generalize hgv : gmul (ps i) (qs j) = gv at HM hgm HP
          have HX := Lib.hid (fun w => add_any c gv w hl hgm)
          have hcx := xor_lt c gv hl hgm
          have HP2 := Lib.hid (HP.out _ rfl)
          generalize c ^^^ gv = z at HX hcx HP2
          clear HP hgv d1 d2 hk
          go_wp2
          go_region_with ((first | (go_at_call 73; refine (HM.out _).mono ?_; rintro e w' ⟨rfl, rfl⟩) | (go_at_call 44; refine (HX.out _).mono ?_; rintro e w' ⟨rfl, rfl⟩)))
          all_goals
            go_wp2
            go_roundw
            case rel => exact ⟨j + 1, by go_num, by omega, Lib.hid (HP2.out.drew), (hbw2.setCell (p := ⟨g, k, none⟩) (Nat.le_refl _) _).drew⟩
            case measure => simp [intOf]; omega
        · obtain rfl : j = 4 := by omega
          go_wp2
          go_roundw
          case rel => exact ⟨i + 1, by go_num, by omega, HC2, hbw2⟩
          case measure => simp [intOf]; omega
    · obtain rfl : i = 4 := by omega
      have hsw := hbw.size
      have g0 := HC.out.cells 0 (by omega)
      have g1 := HC.out.cells 1 (by omega)
      have g2 := HC.out.cells 2 (by omega)
      have g3 := HC.out.cells 3 (by omega)
      rw [show 4 * 4 = 16 from rfl] at g0 g1 g2 g3
      have hr : ∀ k, k < 4 → wr.cell? ⟨w.heap.size + 1 + 1, k, none⟩ = some (.int .u8 0) ∧ wr.frozen? ⟨w.heap.size + 1 + 1, k, none⟩ = false := fun k hk =>
        ⟨(hbw.cell (p := ⟨w.heap.size + 1 + 1, k, none⟩) (by show w.heap.size + 1 + 1 < g; omega)).trans (HR.out k hk).1, (hbw.frozen (p := ⟨w.heap.size + 1 + 1, k, none⟩) (by show w.heap.size + 1 + 1 < g; omega)).trans (HR.out k hk).2⟩
      obtain ⟨r0, s0⟩ := hr 0 (by omega)
      obtain ⟨r1, s1⟩ := hr 1 (by omega)
      obtain ⟨r2, s2⟩ := hr 2 (by omega)
      obtain ⟨r3, s3⟩ := hr 3 (by omega)
      have hBB : Below w.heap.size w wr := B0.trans (hbw.mono (by omega))
      clear hr HC
      go_wp2
      have hh2 : wr.heap[w.heap.size + 1 + 1]? = some (.cells #[.int .u8 0, .int .u8 0, .int .u8 0, .int .u8 0] 89 (0, 0)) := (hbw.block _ (by omega)).trans hh.out
      have hh3 := heap_setCell_same _ _ 3 _ _ (.int .u8 (colT ps qs 16 3 : Int)) (heap_setCell_same _ _ 2 _ _ (.int .u8 (colT ps qs 16 2 : Int)) (heap_setCell_same _ _ 1 _ _ (.int .u8 (colT ps qs 16 1 : Int)) (heap_setCell_same wr _ 0 _ _ (.int .u8 (colT ps qs 16 0 : Int)) hh2)))
      refine bodyPost_ret_by (results_cell_row rfl _ _ (w.heap.size + 1 + 1) 89 #[.int .u8 (colT ps qs 16 0 : Int), .int .u8 (colT ps qs 16 1 : Int), .int .u8 (colT ps qs 16 2 : Int), .int .u8 (colT ps qs 16 3 : Int)] (0, 0) _ rfl hh3 Try.underlying89 rfl (by kernel_rfl)) rfl ⟨rfl, ?_⟩
      exact (((hBB.setCell (p := ⟨w.heap.size + 1 + 1, 0, none⟩) (by show w.heap.size ≤ w.heap.size + 1 + 1; omega) _).setCell (p := ⟨w.heap.size + 1 + 1, 1, none⟩) (by show w.heap.size ≤ w.heap.size + 1 + 1; omega) _).setCell (p := ⟨w.heap.size + 1 + 1, 2, none⟩) (by show w.heap.size ≤ w.heap.size + 1 + 1; omega) _).setCell (p := ⟨w.heap.size + 1 + 1, 3, none⟩) (by show w.heap.size ≤ w.heap.size + 1 + 1; omega) _
end Go.Proofs.Ytbbanhjcchnhpaa
