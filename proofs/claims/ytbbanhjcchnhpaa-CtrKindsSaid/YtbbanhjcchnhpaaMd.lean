/- Contracts of package gf (cellaret): columns' products. -/
import Derived.Test.YtbbanhjcchnhpaaGfF
import Derived.Test.YtbbanhjcchnhpaaMc
import Derived.Deep.RegionWith
import Derived.Laws.Rows
import Derived.Laws.NewBlocks
import Derived.Deep.MidRow
import Derived.Deep.CutRange
import Derived.Laws.CopyOwn
import Derived.Laws.Tables
import Derived.Deep.AppendLies
namespace Go.Proofs.Ytbbanhjcchnhpaa
open Go.RowKit Go.Deep
set_option linter.unusedVariables false

/-- The four sums behind so many products. -/
def colT (ps qs : Nat → Nat) : Nat → Nat → Nat
  | 0, _ => 0
  | t + 1, k => if k = (t / 4 + t % 4) % 4 then colT ps qs t k ^^^ gmul (ps (t / 4)) (qs (t % 4)) else colT ps qs t k
theorem colT_lt (ps qs : Nat → Nat) (h : ∀ i, ps i < 256) (t k : Nat) : colT ps qs t k < 256 := by
  induction t with
  | zero => show 0 < 256; omega
  | succ t ih =>
    unfold colT
    split
    · exact xor_lt _ _ ih (gmul_lt _ _ (h _))
    · exact ih
structure ColAt (w : World) (g : Nat) (f : Nat → Nat) : Prop where
  cells : ∀ k, k < 4 → w.cell? ⟨g, k, none⟩ = some (.int .u8 (f k : Int))
  free : ∀ k, k < 4 → w.frozen? ⟨g, k, none⟩ = false
  lt : g < w.heap.size
theorem ColAt.below {w w' : World} {g : Nat} {f : Nat → Nat} (h : ColAt w g f) (hb : Below w.heap.size w w') : ColAt w' g f :=
  ⟨fun k hk => (hb.cell (p := ⟨g, k, none⟩) h.lt).trans (h.cells k hk), fun k hk => (hb.frozen (p := ⟨g, k, none⟩) h.lt).trans (h.free k hk), Nat.lt_of_lt_of_le h.lt hb.size⟩
theorem ColAt.drew {w : World} {g : Nat} {f : Nat → Nat} (h : ColAt w g f) : ColAt w.drew g f := ⟨h.cells, h.free, h.lt⟩
theorem ColAt.put {w : World} {g : Nat} {ps qs : Nat → Nat} {t : Nat} (h : ColAt w g (colT ps qs t)) (k v : Nat) (hk : k < 4) (ht : (t / 4 + t % 4) % 4 = k) (hv : colT ps qs t k ^^^ gmul (ps (t / 4)) (qs (t % 4)) = v) : ColAt (w.setCell ⟨g, k, none⟩ (.int .u8 (v : Int))) g (colT ps qs (t + 1)) := by
  refine ⟨fun j hj => ?_, fun j hj => by rw [World.frozen?_setCell]; exact h.free j hj, by simpa [World.setCell] using h.lt⟩
  by_cases e : j = k
  · subst e
    have : colT ps qs (t + 1) j = v := by unfold colT; rw [if_pos ht.symm]; exact hv
    rw [this]
    exact World.cell?_setCell_same _ _ _ (h.cells j hj)
  · have : colT ps qs (t + 1) j = colT ps qs t j := by
      show (if j = (t / 4 + t % 4) % 4 then _ else _) = _
      rw [if_neg (by rw [ht]; exact e)]
    rw [this, World.cell?_setCell_other _ _ _ _ (by intro e'; simp only [Addr.mk.injEq] at e'; omega)]
    exact h.cells j hj

theorem index4 (f : Nat → Nat) (i : Nat) (hi : i < 4) (w : World) : (Instr.index 89 (.agg #[.int .u8 (f 0 : Int), .int .u8 (f 1 : Int), .int .u8 (f 2 : Int), .int .u8 (f 3 : Int)]) (.int .i64 (i : Int))).run Try.prog w = .ok (.int .u8 (f i : Int)) w := by
  have h0 : ∀ w, (Instr.index 89 (.agg #[.int .u8 (f 0 : Int), .int .u8 (f 1 : Int), .int .u8 (f 2 : Int), .int .u8 (f 3 : Int)]) (.int .i64 0)).run Try.prog w = .ok (.int .u8 (f 0 : Int)) w := fun _ => by kernel_rfl
  have h1 : ∀ w, (Instr.index 89 (.agg #[.int .u8 (f 0 : Int), .int .u8 (f 1 : Int), .int .u8 (f 2 : Int), .int .u8 (f 3 : Int)]) (.int .i64 1)).run Try.prog w = .ok (.int .u8 (f 1 : Int)) w := fun _ => by kernel_rfl
  have h2 : ∀ w, (Instr.index 89 (.agg #[.int .u8 (f 0 : Int), .int .u8 (f 1 : Int), .int .u8 (f 2 : Int), .int .u8 (f 3 : Int)]) (.int .i64 2)).run Try.prog w = .ok (.int .u8 (f 2 : Int)) w := fun _ => by kernel_rfl
  have h3 : ∀ w, (Instr.index 89 (.agg #[.int .u8 (f 0 : Int), .int .u8 (f 1 : Int), .int .u8 (f 2 : Int), .int .u8 (f 3 : Int)]) (.int .i64 3)).run Try.prog w = .ok (.int .u8 (f 3 : Int)) w := fun _ => by kernel_rfl
  have : i = 0 ∨ i = 1 ∨ i = 2 ∨ i = 3 := by omega
  rcases this with rfl | rfl | rfl | rfl
  · exact h0 w
  · exact h1 w
  · exact h2 w
  · exact h3 w
set_option maxRecDepth 100000 in
set_option maxHeartbeats 2000000 in
theorem column_raw (ps qs : Nat → Nat) (w : World) (ha : ∀ i, ps i < 256) (hb : ∀ i, qs i < 256) :
    Calls Try.prog 78 #[.agg #[.int .u8 (ps 0 : Int), .int .u8 (ps 1 : Int), .int .u8 (ps 2 : Int), .int .u8 (ps 3 : Int)], .agg #[.int .u8 (qs 0 : Int), .int .u8 (qs 1 : Int), .int .u8 (qs 2 : Int), .int .u8 (qs 3 : Int)]] w fun e w' =>
      e = .returned (.agg #[.int .u8 (colT ps qs 16 0 : Int), .int .u8 (colT ps qs 16 1 : Int), .int .u8 (colT ps qs 16 2 : Int), .int .u8 (colT ps qs 16 3 : Int)]) ∧ Below w.heap.size w w' := by
  have hw4 : ∃ w4, (((w.alloc (.cells #[.int .u8 (ps 0 : Int), .int .u8 (ps 1 : Int), .int .u8 (ps 2 : Int), .int .u8 (ps 3 : Int)] 89)).alloc (.cells #[.int .u8 (qs 0 : Int), .int .u8 (qs 1 : Int), .int .u8 (qs 2 : Int), .int .u8 (qs 3 : Int)] 89)).alloc (.cells #[.int .u8 0, .int .u8 0, .int .u8 0, .int .u8 0] 89)).alloc (.cells #[.int .u8 0, .int .u8 0, .int .u8 0, .int .u8 0] 89) = w4 := ⟨_, rfl⟩
  obtain ⟨w4, hw4⟩ := hw4
  have B0 : Below w.heap.size w w4 := by
    rw [← hw4]
    exact ((((Below.refl _ _).alloc (Nat.le_refl _) _).alloc (by simp) _).alloc (by simp; omega) _).alloc (by simp; omega) _
  have hsz : w4.heap.size = w.heap.size + 1 + 1 + 1 + 1 := by rw [← hw4]; simp [go_sem]
  have q0 : w4.cell? ⟨w.heap.size + 1, 0, none⟩ = some (.int .u8 (qs 0 : Int)) := by rw [← hw4]; simp [go_sem]
  have q1 : w4.cell? ⟨w.heap.size + 1, 1, none⟩ = some (.int .u8 (qs 1 : Int)) := by rw [← hw4]; simp [go_sem]
  have q2 : w4.cell? ⟨w.heap.size + 1, 2, none⟩ = some (.int .u8 (qs 2 : Int)) := by rw [← hw4]; simp [go_sem]
  have q3 : w4.cell? ⟨w.heap.size + 1, 3, none⟩ = some (.int .u8 (qs 3 : Int)) := by rw [← hw4]; simp [go_sem]
  have r : ∀ k, k < 4 → w4.cell? ⟨w.heap.size + 1 + 1, k, none⟩ = some (.int .u8 0) ∧ w4.frozen? ⟨w.heap.size + 1 + 1, k, none⟩ = false := fun k hk => by
    rw [← hw4]
    have : k = 0 ∨ k = 1 ∨ k = 2 ∨ k = 3 := by omega
    rcases this with rfl | rfl | rfl | rfl <;> simp [go_sem]
  have hC : Hid (ColAt w4 (w.heap.size + 1 + 1 + 1) (colT ps qs (4 * 0))) := Lib.hid ⟨fun k hk => by
    rw [← hw4]
    have : k = 0 ∨ k = 1 ∨ k = 2 ∨ k = 3 := by omega
    rcases this with rfl | rfl | rfl | rfl <;> simp [colT, go_sem], fun k hk => by
    rw [← hw4]
    have : k = 0 ∨ k = 1 ∨ k = 2 ∨ k = 3 := by omega
    rcases this with rfl | rfl | rfl | rfl <;> simp [go_sem], by omega⟩
  have hh : Hid (w4.heap[w.heap.size + 1 + 1]? = some (.cells #[.int .u8 0, .int .u8 0, .int .u8 0, .int .u8 0] 89 (0, 0))) := Lib.hid (by
    rw [← hw4]
    generalize hA : (w.alloc (.cells #[.int .u8 (ps 0 : Int), .int .u8 (ps 1 : Int), .int .u8 (ps 2 : Int), .int .u8 (ps 3 : Int)] 89)).alloc (.cells #[.int .u8 (qs 0 : Int), .int .u8 (qs 1 : Int), .int .u8 (qs 2 : Int), .int .u8 (qs 3 : Int)] 89) = A
    have hAs : A.heap.size = w.heap.size + 1 + 1 := by rw [← hA]; simp
    rw [← hAs, heap_alloc_old _ _ (by simp), heap_alloc_new])
  have HW := Lib.hid hw4
  have HR := Lib.hid r
  have HA := Lib.hid ha
  have HB := Lib.hid hb
  clear hw4 r ha hb
  go_enter Try.func78, Try.ntmps78
  go_wp2
  rw [HW.out]
  generalize hg : w.heap.size + 1 + 1 + 1 = g at hC hsz ⊢
  go_loopw [12] (fun x wi => ∃ i : Nat, x = .int .i64 i ∧ i ≤ 4 ∧ Hid (ColAt wi g (colT ps qs (4 * i))) ∧ Below g w4 wi) (fun x _ => 4 - (intOf x).toNat)
  case atStart => exact ⟨0, rfl, by omega, hC, Below.refl _ _⟩
  case round =>
    obtain ⟨i, rfl, hi, HC, hbw⟩ := hrel
    clear hC
    by_cases hlt : i < 4
    · have k0 := (hbw.cell (p := ⟨w.heap.size + 1, 0, none⟩) (by show w.heap.size + 1 < g; omega)).trans q0
      have k1 := (hbw.cell (p := ⟨w.heap.size + 1, 1, none⟩) (by show w.heap.size + 1 < g; omega)).trans q1
      have k2 := (hbw.cell (p := ⟨w.heap.size + 1, 2, none⟩) (by show w.heap.size + 1 < g; omega)).trans q2
      have k3 := (hbw.cell (p := ⟨w.heap.size + 1, 3, none⟩) (by show w.heap.size + 1 < g; omega)).trans q3
      have hli : (i : Int) < 4 := by omega
      have ix := index4 ps i hlt
      have hpi := HA.out i
      have HC' : Hid (ColAt wr g (colT ps qs (4 * i + 0))) := HC
      go_wp2
      obtain ⟨wo, rfl⟩ : ∃ wo : World, wo = wr := ⟨_, rfl⟩
      go_loopw [17] (fun x wi => ∃ j : Nat, x = .int .i64 j ∧ j ≤ 4 ∧ Hid (ColAt wi g (colT ps qs (4 * i + j))) ∧ Below g w4 wi) (fun x _ => 4 - (intOf x).toNat)
      case atStart => exact ⟨0, rfl, by omega, HC', hbw⟩
      case round =>
        obtain ⟨j, rfl, hj, HC2, hbw2⟩ := hrel
        by_cases hlt2 : j < 4
        · have hlj : (j : Int) < 4 := by omega
          have iy := index4 qs j hlt2
          have hqj := HB.out j
          obtain ⟨k, hk⟩ : ∃ k, (i + j) % 4 = k := ⟨_, rfl⟩
          have hk4 : k < 4 := by omega
          have e1 : ((i : Int) + (j : Int)) % 4 = (k : Int) := by omega
          have d1 : (4 * i + j) / 4 = i := by omega
          have d2 : (4 * i + j) % 4 = j := by omega
          have c0 := HC2.out.cells k hk4
          have f0 := HC2.out.free k hk4
          have hl := colT_lt ps qs HA.out (4 * i + j) k
          have HP := Lib.hid (fun v hv => HC2.out.put k v hk4 (by rw [d1, d2]; exact hk) (by rw [d1, d2]; exact hv))
          generalize colT ps qs (4 * i + j) k = c at c0 hl HP
          have HM := Lib.hid (fun w => mul_any (ps i) (qs j) w hpi hqj)
          have hgm := gmul_lt (ps i) (qs j) hpi
          generalize hgv : gmul (ps i) (qs j) = gv at HM hgm HP
          have HX := Lib.hid (fun w => add_any c gv w hl hgm)
          have hcx := xor_lt c gv hl hgm
          have HP2 := Lib.hid (HP.out _ rfl)
          generalize c ^^^ gv = z at HX hcx HP2
          clear HP hgv d1 d2 hk
          go_wp2
          go_region_with ((first | (go_at_call 73; refine (HM.out _).mono ?_; rintro e w' ⟨rfl, rfl⟩) | (go_at_call 44; refine (HX.out _).mono ?_; rintro e w' ⟨rfl, rfl⟩)))
          all_goals
            go_wp2
            go_roundw
            case rel => exact ⟨j + 1, by go_num, by omega, Lib.hid (HP2.out.drew), (hbw2.setCell (p := ⟨g, k, none⟩) (Nat.le_refl _) _).drew⟩
            case measure => simp [intOf]; omega
        · obtain rfl : j = 4 := by omega
          go_wp2
          go_roundw
          case rel => exact ⟨i + 1, by go_num, by omega, HC2, hbw2⟩
          case measure => simp [intOf]; omega
    · obtain rfl : i = 4 := by omega
      have hsw := hbw.size
      have g0 := HC.out.cells 0 (by omega)
      have g1 := HC.out.cells 1 (by omega)
      have g2 := HC.out.cells 2 (by omega)
      have g3 := HC.out.cells 3 (by omega)
      rw [show 4 * 4 = 16 from rfl] at g0 g1 g2 g3
      have hr : ∀ k, k < 4 → wr.cell? ⟨w.heap.size + 1 + 1, k, none⟩ = some (.int .u8 0) ∧ wr.frozen? ⟨w.heap.size + 1 + 1, k, none⟩ = false := fun k hk =>
        ⟨(hbw.cell (p := ⟨w.heap.size + 1 + 1, k, none⟩) (by show w.heap.size + 1 + 1 < g; omega)).trans (HR.out k hk).1, (hbw.frozen (p := ⟨w.heap.size + 1 + 1, k, none⟩) (by show w.heap.size + 1 + 1 < g; omega)).trans (HR.out k hk).2⟩
      obtain ⟨r0, s0⟩ := hr 0 (by omega)
      obtain ⟨r1, s1⟩ := hr 1 (by omega)
      obtain ⟨r2, s2⟩ := hr 2 (by omega)
      obtain ⟨r3, s3⟩ := hr 3 (by omega)
      have hBB : Below w.heap.size w wr := B0.trans (hbw.mono (by omega))
      clear hr HC
      go_wp2
      have hh2 : wr.heap[w.heap.size + 1 + 1]? = some (.cells #[.int .u8 0, .int .u8 0, .int .u8 0, .int .u8 0] 89 (0, 0)) := (hbw.block _ (by omega)).trans hh.out
      have hh3 := heap_setCell_same _ _ 3 _ _ (.int .u8 (colT ps qs 16 3 : Int)) (heap_setCell_same _ _ 2 _ _ (.int .u8 (colT ps qs 16 2 : Int)) (heap_setCell_same _ _ 1 _ _ (.int .u8 (colT ps qs 16 1 : Int)) (heap_setCell_same wr _ 0 _ _ (.int .u8 (colT ps qs 16 0 : Int)) hh2)))
      refine bodyPost_ret_by (results_cell_row rfl _ _ (w.heap.size + 1 + 1) 89 #[.int .u8 (colT ps qs 16 0 : Int), .int .u8 (colT ps qs 16 1 : Int), .int .u8 (colT ps qs 16 2 : Int), .int .u8 (colT ps qs 16 3 : Int)] (0, 0) _ rfl hh3 Try.underlying89 rfl (by kernel_rfl)) rfl ⟨rfl, ?_⟩
      exact (((hBB.setCell (p := ⟨w.heap.size + 1 + 1, 0, none⟩) (by show w.heap.size ≤ w.heap.size + 1 + 1; omega) _).setCell (p := ⟨w.heap.size + 1 + 1, 1, none⟩) (by show w.heap.size ≤ w.heap.size + 1 + 1; omega) _).setCell (p := ⟨w.heap.size + 1 + 1, 2, none⟩) (by show w.heap.size ≤ w.heap.size + 1 + 1; omega) _).setCell (p := ⟨w.heap.size + 1 + 1, 3, none⟩) (by show w.heap.size ≤ w.heap.size + 1 + 1; omega) _
end Go.Proofs.Ytbbanhjcchnhpaa

/- Package aes (cellaret): mix. -/
namespace Go.Proofs.Ytbbanhjcchnhpaa
open Go.RowKit Go.Deep
set_option linter.unusedVariables false
set_option linter.unusedSimpArgs false
theorem alloc_stepM {K X : Act → World → Prop} {S : World → Prop} {a : Act} {W : World} {o : Obj} (hK : Shut (∀ a w, S w → (S w → X a w) → K a w)) (hS : S (W.alloc o)) (h : ∀ W' : World, Hid (W' = W.alloc o) → W'.heap[W.heap.size]? = some o → S W' → X a W') : K a (W.alloc o) :=
  hK.out _ _ hS (fun h1 => h _ (Lib.hid rfl) (heap_alloc_new _ _) h1)
theorem any_stepM {K X : Act → World → Prop} {S : World → Prop} {a : Act} {W : World} (hK : Shut (∀ a w, S w → (S w → X a w) → K a w)) (hS : S W) (h : ∀ W' : World, Hid (W' = W) → S W' → X a W') : K a W :=
  hK.out _ _ hS (fun h1 => h _ (Lib.hid rfl) h1)
theorem blk_belowM {w w' : World} {b : Nat} {o : Obj} (hb : Below w.heap.size w w') (hz : w.heap[b]? = some o) : w'.heap[b]? = some o := (hb.block b (Array.getElem?_eq_some_iff.1 hz).1).trans hz
theorem blk_ltM {w : World} {b : Nat} {o : Obj} (hz : w.heap[b]? = some o) : b < w.heap.size := (Array.getElem?_eq_some_iff.1 hz).1
theorem below_of_allocM {W W' : World} {o : Obj} (h : Hid (W' = W.alloc o)) : Below W.heap.size W W' := by rw [h.out]; exact (Below.refl _ _).alloc (Nat.le_refl _) _
theorem step_copy_ownM {P : Program} {ops : Array Oper} {o : Oper} {a : Act} {w : World} {K : Act → World → Prop} {Q : Exit → Act → World → Prop} {E : Prop} (hgd : o.guard = none) (d s : Operand) (dT sT : TypeId)
    (ho : o.op = .call { callee := .builtin .copy, args := #[d, s], argTypes := #[dT, sT] }) (elem : TypeId) (hu : P.underlying dT = some (.slice elem)) (hsz : (P.info? elem).map (·.size) = some 1)
    (g off dLen dCap : Nat) (ad : Addr) (sLen sCap : Nat) (hd : a.eval d = .slice (some ⟨g, off, none⟩) dLen dCap) (hs : a.eval s = .slice (some ad) sLen sCap)
    (cur : List Value) (t : TypeId) (hg : w.heap[g]? = some (.cells cur.toArray t (0, 0))) (cs : List Value) (hn : cs.length = Nat.min sLen dLen)
    (hsrc : ∀ j v, cs[j]? = some v → w.cell? (ad.add j) = some v) (hfit : off + cs.length ≤ cur.length) (h1 : ∀ v ∈ cs, v.oneCell' = true)
    (h : ∀ w', Hid (w' = w.setRow g (splice cur off cs).toArray) → K (a.put o.dst (goInt cs.length)) w') :
    if Region.wanted o (yielded ops a.tmps) = true then Oper.wp P o a w K Q else E := by
  have hw : Region.wanted o (yielded ops a.tmps) = true := by simp [Region.wanted, hgd]
  rw [if_pos hw]
  have hrun := run_copy_row (P := P) w dT sT o.type elem g off dLen dCap ad sLen sCap cur.toArray t cs hu hsz hg hn hsrc (by simpa using hfit) h1
  have hh := h _ (Lib.hid rfl)
  unfold splice at hh
  unfold Oper.wp
  simp [execOp, ho, resolve, invoke, builtin, hd, hs, hrun, Result.andThen]
  exact hh
/-- A mixed state's byte j, mixed by a. -/
def mxB (a : Nat → Nat) (f : Nat → UInt8) (j : Nat) : UInt8 := UInt8.ofNat (colT a (fun i => (f (4 * (j / 4) + i)).toNat) 16 (j % 4))
theorem mxB_nat (a : Nat → Nat) (f : Nat → UInt8) (j : Nat) (ha : ∀ i, a i < 256) : (mxB a f j).toNat = colT a (fun i => (f (4 * (j / 4) + i)).toNat) 16 (j % 4) := by
  unfold mxB
  rw [UInt8.toNat_ofNat']
  exact Nat.mod_eq_of_lt (colT_lt _ _ ha _ _)
def mxF (a : Nat → Nat) (f : Nat → UInt8) (c j : Nat) : UInt8 := if j < 4 * c then mxB a f j else f j
theorem splice4 (f h : Nat → UInt8) (c : Nat) (hc : c < 4) (v0 v1 v2 v3 : Value) (hv : ∀ j, j < 16 → j / 4 = c → [v0, v1, v2, v3][j % 4]? = some (.int .u8 ((h j).toNat : Int))) (hn : ∀ j, j < 16 → j / 4 ≠ c → f j = h j) (w : World) (g : Nat) (t : TypeId)
    (hg : w.heap[g]? = some (.cells (splice (st16 f).toList (4 * c) [v0, v1, v2, v3]).toArray t (0, 0))) : w.rowIs g t 16 (fun j => .int .u8 ((h j).toNat : Int)) := by
  have hl : (st16 f).toList.length = 16 := by rw [Array.length_toList, st16_size]
  refine ⟨_, hg, by rw [List.size_toArray, length_splice _ _ _ (by rw [hl]; simp; omega), hl], fun j hj => ?_⟩
  rw [List.getElem?_toArray]
  unfold splice
  have h4 : [v0, v1, v2, v3].length = 4 := rfl
  have ht : ((st16 f).toList.take (4 * c)).length = 4 * c := by rw [List.length_take, hl]; omega
  by_cases h1 : j < 4 * c
  · rw [List.getElem?_append_left (by rw [ht]; exact h1), List.getElem?_take, if_pos h1, Array.getElem?_toList, st16_get f j hj, hn j hj (by omega)]
  · rw [List.getElem?_append_right (by rw [ht]; omega), ht]
    by_cases h2 : j < 4 * c + 4
    · rw [List.getElem?_append_left (by rw [h4]; omega), ← hv j hj (by omega), show j - 4 * c = j % 4 by omega]
    · rw [List.getElem?_append_right (by rw [h4]; omega), List.getElem?_drop, h4, Array.getElem?_toList, show 4 * c + 4 + (j - 4 * c - 4) = j by omega, st16_get f j hj, hn j hj (by omega)]
theorem array_atE (g o cap : Nat) (w : World) : (Instr.arrayAt 89 (.slice (some ⟨g, o, none⟩) 4 cap)).run Try.prog w = .ok (.pointer (some ⟨g, o, none⟩)) w := by kernel_rfl
set_option maxRecDepth 100000 in
set_option maxHeartbeats 3000000 in
theorem mix_any (a : Nat → Nat) (ha : ∀ i, a i < 256) (f : Nat → UInt8) (g : Nat) (w : World) (hR : Hid (w.rowIs g 82 16 (fun j => .int .u8 ((f j).toNat : Int)))) :
    Calls Try.prog 59 #[.pointer (some ⟨g, 0, none⟩), .agg #[.int .u8 (a 0 : Int), .int .u8 (a 1 : Int), .int .u8 (a 2 : Int), .int .u8 (a 3 : Int)]] w fun e w' => e = .returned (.tuple #[]) ∧ w'.rowIs g 82 16 (fun j => .int .u8 ((mxB a f j).toNat : Int)) ∧ Kp g w w' := by
  have HCO := Lib.hid (fun qs hq w => column_raw a qs w ha hq)
  have HBN := Lib.hid (fun j => mxB_nat a f j ha)
  obtain ⟨v0, hv0⟩ : ∃ v, Hid (Value.int .u8 (a 0 : Int) = v) := ⟨_, Lib.hid rfl⟩
  obtain ⟨v1, hv1⟩ : ∃ v, Hid (Value.int .u8 (a 1 : Int) = v) := ⟨_, Lib.hid rfl⟩
  obtain ⟨v2, hv2⟩ : ∃ v, Hid (Value.int .u8 (a 2 : Int) = v) := ⟨_, Lib.hid rfl⟩
  obtain ⟨v3, hv3⟩ : ∃ v, Hid (Value.int .u8 (a 3 : Int) = v) := ⟨_, Lib.hid rfl⟩
  have o0 : v0.oneCell' = true := by rw [← hv0.out]; rfl
  have o1 : v1.oneCell' = true := by rw [← hv1.out]; rfl
  have o2 : v2.oneCell' = true := by rw [← hv2.out]; rfl
  have o3 : v3.oneCell' = true := by rw [← hv3.out]; rfl
  rw [hv0.out, hv1.out, hv2.out, hv3.out] at HCO ⊢
  clear hv0 hv1 hv2 hv3
  have hgs := World.rowIs.lt hR.out
  obtain ⟨w1, HW1, hb1, B1⟩ : ∃ w1, Hid (w.alloc (.cells #[v0, v1, v2, v3] 89) = w1) ∧ Hid (w1.heap[w.heap.size]? = some (.cells #[v0, v1, v2, v3] 89 (0, 0))) ∧ Below w.heap.size w w1 := ⟨_, Lib.hid rfl, Lib.hid (heap_alloc_new _ _), (Below.refl _ _).alloc (Nat.le_refl _) _⟩
  have HR1 : Hid (w1.rowIs g 82 16 (fun j => .int .u8 ((f j).toNat : Int))) := Lib.hid (World.rowIs.of_block hR.out (B1.block g hgs))
  have BG : Kp g w w1 := Kp.of_below B1 hgs
  have hgq : g < w.heap.size := hgs
  go_enter Try.func59, Try.ntmps59
  go_wp2_with fail
  rw [HW1.out]
  clear HW1 hR B1
  have hz1 : w.heap.size < w1.heap.size := blk_ltM hb1.out
  generalize hqe : w.heap.size = q at *
  have HQS := Lib.hid hqe
  clear hqe
  have HMQ : Hid (∀ w' : World, w'.heap[q]? = some (.cells #[v0, v1, v2, v3] 89 (0, 0)) → w'.rangeAt q 0 [v0, v1, v2, v3]) := Lib.hid (fun w' h => World.rangeAt_of_block h 0 4)
  go_loopw [6] (fun x wi => ∃ c : Nat, x = .int .i64 (c : Int) ∧ c ≤ 4 ∧ Hid (wi.rowIs g 82 16 (fun j => .int .u8 ((mxF a f c j).toNat : Int))) ∧ Hid (wi.heap[q]? = some (.cells #[v0, v1, v2, v3] 89 (0, 0))) ∧ Hid (Kp g w wi)) (fun x _ => 4 - (intOf x).toNat)
  case atStart => exact ⟨0, rfl, by omega, Lib.hid (World.rowIs.congr HR1.out fun j hj => by unfold mxF; rw [if_neg (show ¬ j < 4 * 0 by omega)]), hb1, Lib.hid BG⟩
  clear HR1 hb1 BG
  case round =>
    obtain ⟨c, rfl, hc, HR, HQ, HB⟩ := hrel
    by_cases hlc : c < 4
    · as_aux_lemma =>
      have hci : (c : Int) < 4 := by omega
      have y1 : IntKind.i64.wrap (4 * (c : Int)) = 4 * c := IntWalk.i64_in _ (by omega)
      have y2 : IntKind.i64.wrap (4 * (c : Int) + 4) = 4 * c + 4 := IntWalk.i64_in _ (by omega)
      have y3 : (4 * (c : Int)).toNat = 4 * c := by omega
      have y4 : (4 * (c : Int) + 4).toNat = 4 * c + 4 := by omega
      have y5 : (0 : Int) ≤ 4 * (c : Int) := by omega
      have y6 : 4 * (c : Int) + 4 ≤ 16 := by omega
      have y7 : 4 * (c : Int) ≤ 4 * (c : Int) + 4 := by omega
      have y8 : 4 * (c : Int) ≤ 16 := by omega
      have y9 : 4 * c + 4 - 4 * c = 4 := by omega
      have y10 : ¬ 16 = 4 * c := by omega
      have hat := array_atE g (4 * c) (16 - 4 * c)
      obtain ⟨x, hx⟩ : ∃ x : Nat → Nat, Hid ((fun i => (f (4 * c + i)).toNat) = x) := ⟨_, Lib.hid rfl⟩
      have hx5 : ∀ i, x i < 256 := fun i => by rw [← hx.out]; exact (f (4 * c + i)).toNat_lt
      have CO := Lib.hid (fun w => HCO.out x hx5 w)
      obtain ⟨b0, hb0⟩ : ∃ v, Hid (Value.int .u8 (x 0 : Int) = v) := ⟨_, Lib.hid rfl⟩
      obtain ⟨b1, hb1⟩ : ∃ v, Hid (Value.int .u8 (x 1 : Int) = v) := ⟨_, Lib.hid rfl⟩
      obtain ⟨b2, hb2⟩ : ∃ v, Hid (Value.int .u8 (x 2 : Int) = v) := ⟨_, Lib.hid rfl⟩
      obtain ⟨b3, hb3⟩ : ∃ v, Hid (Value.int .u8 (x 3 : Int) = v) := ⟨_, Lib.hid rfl⟩
      obtain ⟨d0, hd0⟩ : ∃ v, Hid (Value.int .u8 (colT a x 16 0 : Int) = v) := ⟨_, Lib.hid rfl⟩
      obtain ⟨d1, hd1⟩ : ∃ v, Hid (Value.int .u8 (colT a x 16 1 : Int) = v) := ⟨_, Lib.hid rfl⟩
      obtain ⟨d2, hd2⟩ : ∃ v, Hid (Value.int .u8 (colT a x 16 2 : Int) = v) := ⟨_, Lib.hid rfl⟩
      obtain ⟨d3, hd3⟩ : ∃ v, Hid (Value.int .u8 (colT a x 16 3 : Int) = v) := ⟨_, Lib.hid rfl⟩
      rw [hb0.out, hb1.out, hb2.out, hb3.out, hd0.out, hd1.out, hd2.out, hd3.out] at CO
      have HD1 : Hid (#[d0, d1, d2, d3].all (·.oneCell') = true) := Lib.hid (by
        rw [← hd0.out, ← hd1.out, ← hd2.out, ← hd3.out, ← Array.all_toList]
        rfl)
      have HDV : Hid (∀ j, j < 16 → j / 4 = c → [d0, d1, d2, d3][j % 4]? = some (.int .u8 ((mxB a f j).toNat : Int))) := Lib.hid (fun j hj hjc => by
        rw [HBN.out, hjc, hx.out, ← hd0.out, ← hd1.out, ← hd2.out, ← hd3.out]
        rcases (show j % 4 = 0 ∨ j % 4 = 1 ∨ j % 4 = 2 ∨ j % 4 = 3 by omega) with e | e | e | e <;> rw [e] <;> rfl)
      have HMR : Hid (∀ w' : World, w'.rowIs g 82 16 (fun j => .int .u8 ((mxF a f c j).toNat : Int)) → w'.rangeAt g (4 * c) [b0, b1, b2, b3]) := Lib.hid (fun w' h j v hv => by
        have hj : j < 4 := by
          have := (List.getElem?_eq_some_iff.1 hv).1
          simpa using this
        rw [World.rowIs.cell h (i := 4 * c + j) (by omega)]
        unfold mxF
        rw [if_neg (show ¬ 4 * c + j < 4 * c by omega), ← hv, ← hb0.out, ← hb1.out, ← hb2.out, ← hb3.out, ← hx.out]
        rcases (show j = 0 ∨ j = 1 ∨ j = 2 ∨ j = 3 by omega) with rfl | rfl | rfl | rfl <;> rfl)
      clear hb0 hb1 hb2 hb3 hd0 hd1 hd2 hd3 hx hx5
      go_upto_region 4 with fail
      go_cut [5] from 9 to 20 (fun s5 wx => ∃ z, s5 = .pointer (some ⟨z, 0, none⟩) ∧ Hid (g < z) ∧ Hid (wx.heap[z]? = some (.cells #[d0, d1, d2, d3] 89 (0, 0))) ∧ Hid (wx.rowIs g 82 16 (fun j => .int .u8 ((mxF a f c j).toNat : Int))) ∧ Hid (wx.heap[q]? = some (.cells #[v0, v1, v2, v3] 89 (0, 0))) ∧ Hid (Kp g w wx))
      case first =>
        have HR : Hid (wr.drew.rowIs g 82 16 (fun j => .int .u8 ((mxF a f c j).toNat : Int))) := Lib.hid HR.out
        have HQ : Hid (wr.drew.heap[q]? = some (.cells #[v0, v1, v2, v3] 89 (0, 0))) := Lib.hid HQ.out
        have HB : Hid (Kp g w wr.drew) := Lib.hid HB.out.drew
        have HG0 := Lib.hid (World.rowIs.lt HR.out)
        refine wp_region_noPanic ?_
        refine wp_region_held_drew (S := (fun w' => w'.rangeAt q 0 [v0, v1, v2, v3] ∧ w'.rangeAt g (4 * c) [b0, b1, b2, b3])) (by kernel_rfl) ?_ (fun hHeld => ?_)
        · (try dsimp only); exact ⟨HMQ.out _ HQ.out, HMR.out _ HR.out⟩
        generalize World.drew wr = wd at *
        refine wpAnyH_take (i := 0) (oi := { dst := some 9, op := Go.Op.load 89 (Go.Operand.tmp 3), type := 89, pos := "aes.go:117", after := #[], guard := none }) rfl (by kernel_rfl) (by kernel_rfl) (by kernel_rfl) (fun _ _ _ h => h) (yieldsIf_load_mid (by rfl) _ _ rfl q 0 rfl [v0, v1, v2, v3] _ (fun _ h => h.1) Try.underlying89 rfl (by kernel_rfl)) (by assumption) ?_
        try simp only [Act.put, List.setIfInBounds_toArray, List.set_cons_zero, List.set_cons_succ]
        refine wpAnyH_take (i := 1) (oi := { dst := some 10, op := Go.Op.move (Go.Operand.tmp 0), type := 86, pos := "aes.go:117", after := #[], guard := none }) (v := ?_) rfl (by kernel_rfl) (by kernel_rfl) (by kernel_rfl) (fun _ _ _ h => h) (Or.inl ⟨by rfl, ?_⟩) (by assumption) ?_
        rotate_left
        · (intro w hSw; (try dsimp only at hSw); go_simp; (try (with_reducible rfl)); done)
        try simp only [Act.put, List.setIfInBounds_toArray, List.set_cons_zero, List.set_cons_succ]
        refine wpAnyH_take (i := 2) (oi := { dst := some 11, op := Go.Op.nilCheck (Go.Operand.tmp 10), type := 86, pos := "aes.go:117", after := #[{ on := 1, ground := Go.Ground.data }], guard := none }) (v := ?_) rfl (by kernel_rfl) (by kernel_rfl) (by kernel_rfl) (fun _ _ _ h => h) (Or.inl ⟨by rfl, ?_⟩) (by assumption) ?_
        rotate_left
        · (intro w hSw; (try dsimp only at hSw); go_simp; (try (with_reducible rfl)); done)
        try simp only [Act.put, List.setIfInBounds_toArray, List.set_cons_zero, List.set_cons_succ]
        refine wpAnyH_take (i := 3) (oi := { dst := some 12, op := Go.Op.move (Go.Operand.tmp 4), type := 3, pos := "aes.go:117", after := #[], guard := none }) (v := ?_) rfl (by kernel_rfl) (by kernel_rfl) (by kernel_rfl) (fun _ _ _ h => h) (Or.inl ⟨by rfl, ?_⟩) (by assumption) ?_
        rotate_left
        · (intro w hSw; (try dsimp only at hSw); go_simp; (try (with_reducible rfl)); done)
        try simp only [Act.put, List.setIfInBounds_toArray, List.set_cons_zero, List.set_cons_succ]
        refine wpAnyH_take (i := 4) (oi := { dst := some 13, op := Go.Op.binOp Go.BinOp.mul 3 (Go.Operand.const (Go.Value.int Go.IntKind.i64 4)) (Go.Operand.tmp 12) 3, type := 3, pos := "aes.go:117", after := #[{ on := 3, ground := Go.Ground.data }], guard := none }) (v := ?_) rfl (by kernel_rfl) (by kernel_rfl) (by kernel_rfl) (fun _ _ _ h => h) (Or.inl ⟨by rfl, ?_⟩) (by assumption) ?_
        rotate_left
        · (intro w hSw; (try dsimp only at hSw); go_simp; (try (with_reducible rfl)); done)
        try simp only [Act.put, List.setIfInBounds_toArray, List.set_cons_zero, List.set_cons_succ]
        refine wpAnyH_take (i := 5) (oi := { dst := some 14, op := Go.Op.move (Go.Operand.tmp 4), type := 3, pos := "aes.go:117", after := #[], guard := none }) (v := ?_) rfl (by kernel_rfl) (by kernel_rfl) (by kernel_rfl) (fun _ _ _ h => h) (Or.inl ⟨by rfl, ?_⟩) (by assumption) ?_
        rotate_left
        · (intro w hSw; (try dsimp only at hSw); go_simp; (try (with_reducible rfl)); done)
        try simp only [Act.put, List.setIfInBounds_toArray, List.set_cons_zero, List.set_cons_succ]
        refine wpAnyH_take (i := 6) (oi := { dst := some 15, op := Go.Op.binOp Go.BinOp.mul 3 (Go.Operand.const (Go.Value.int Go.IntKind.i64 4)) (Go.Operand.tmp 14) 3, type := 3, pos := "aes.go:117", after := #[{ on := 5, ground := Go.Ground.data }], guard := none }) (v := ?_) rfl (by kernel_rfl) (by kernel_rfl) (by kernel_rfl) (fun _ _ _ h => h) (Or.inl ⟨by rfl, ?_⟩) (by assumption) ?_
        rotate_left
        · (intro w hSw; (try dsimp only at hSw); go_simp; (try (with_reducible rfl)); done)
        try simp only [Act.put, List.setIfInBounds_toArray, List.set_cons_zero, List.set_cons_succ]
        refine wpAnyH_take (i := 7) (oi := { dst := some 16, op := Go.Op.binOp Go.BinOp.add 3 (Go.Operand.tmp 15) (Go.Operand.const (Go.Value.int Go.IntKind.i64 4)) 3, type := 3, pos := "aes.go:117", after := #[{ on := 6, ground := Go.Ground.data }], guard := none }) (v := ?_) rfl (by kernel_rfl) (by kernel_rfl) (by kernel_rfl) (fun _ _ _ h => h) (Or.inl ⟨by rfl, ?_⟩) (by assumption) ?_
        rotate_left
        · (intro w hSw; (try dsimp only at hSw); go_simp; (try (with_reducible rfl)); done)
        try simp only [Act.put, List.setIfInBounds_toArray, List.set_cons_zero, List.set_cons_succ]
        refine wpAnyH_take (i := 8) (oi := { dst := some 17, op := Go.Op.slice 82 (Go.Operand.tmp 11) (some (Go.Operand.tmp 13)) (some (Go.Operand.tmp 16)) none, type := 104, pos := "aes.go:117", after := #[{ on := 2, ground := Go.Ground.data }, { on := 4, ground := Go.Ground.data }, { on := 7, ground := Go.Ground.data }], guard := none }) (v := ?_) rfl (by kernel_rfl) (by kernel_rfl) (by kernel_rfl) (fun _ _ _ h => h) (Or.inl ⟨by rfl, ?_⟩) (by assumption) ?_
        rotate_left
        · (intro w hSw; (try dsimp only at hSw); go_simp; (try (with_reducible rfl)); done)
        try simp only [Act.put, List.setIfInBounds_toArray, List.set_cons_zero, List.set_cons_succ]
        refine wpAnyH_take (i := 9) (oi := { dst := some 18, op := Go.Op.sliceToArrayPointer 89 (Go.Operand.tmp 17), type := 0, pos := "aes.go:117", after := #[{ on := 8, ground := Go.Ground.data }], guard := none }) (v := ?_) rfl (by kernel_rfl) (by kernel_rfl) (by kernel_rfl) (fun _ _ _ h => h) (Or.inl ⟨by rfl, ?_⟩) (by assumption) ?_
        rotate_left
        · (intro w hSw; (try dsimp only at hSw); go_simp; (try (with_reducible rfl)); done)
        try simp only [Act.put, List.setIfInBounds_toArray, List.set_cons_zero, List.set_cons_succ]
        refine wpAnyH_take (i := 10) (oi := { dst := some 19, op := Go.Op.load 89 (Go.Operand.tmp 18), type := 89, pos := "aes.go:117", after := #[{ on := 9, ground := Go.Ground.data }], guard := none }) rfl (by kernel_rfl) (by kernel_rfl) (by kernel_rfl) (fun _ _ _ h => h) (yieldsIf_load_mid (by rfl) _ _ rfl g (4 * c) rfl [b0, b1, b2, b3] _ (fun _ h => h.2) Try.underlying89 rfl (by kernel_rfl)) (by assumption) ?_
        try simp only [Act.put, List.setIfInBounds_toArray, List.set_cons_zero, List.set_cons_succ]
        refine wpAnyH_ready (rs := [11, 12]) (by kernel_rfl) (by simp) ?_
        refine AllReadyH.cons (o := { dst := some 20, op := Go.Op.call { callee := Go.Callee.value (Go.Operand.func 78), args := #[Go.Operand.tmp 9, Go.Operand.tmp 19], argTypes := #[89, 89] }, type := 89, pos := "aes.go:117", after := #[{ on := 0, ground := Go.Ground.data }, { on := 10, ground := Go.Ground.data }], guard := none }) rfl (fun K hK => ?_) (AllReadyH.cons (o := { dst := some 5, op := Go.Op.alloc 89, type := 0, pos := "aes.go:117", after := #[], guard := none }) rfl (fun K hK => ?_) AllReadyH.nil)
        ·
          (go_simp; go_at_call 78; refine (CO.out _).mono ?_; rintro e w' ⟨rfl, hb⟩; have HB := Lib.hid (HB.out.trans (Kp.of_below hb HG0.out)); have HR := Lib.hid (World.rowIs.of_block HR.out (hb.block g HG0.out)); have HQ := Lib.hid (blk_belowM hb HQ.out); (try have HZ := Lib.hid (blk_belowM hb HZ.out)); have HG0 := Lib.hid (World.rowIs.lt HR.out); clear hb)
          try go_wp2_with fail
          refine hK.out _ _ ?_ (fun hHeld => ?_)
          · (try dsimp only); exact ⟨HMQ.out _ HQ.out, HMR.out _ HR.out⟩
          clear hK K
          try simp only [Act.put, List.setIfInBounds_toArray, List.set_cons_zero, List.set_cons_succ]
          refine wpAnyH_ready (rs := [12]) (by kernel_rfl) (by simp) ?_
          refine AllReadyH.cons (o := { dst := some 5, op := Go.Op.alloc 89, type := 0, pos := "aes.go:117", after := #[], guard := none }) rfl (fun K hK => ?_) AllReadyH.nil
          go_simp
          refine alloc_stepM hK ⟨HMQ.out _ (blk_belowM ((Below.refl _ _).alloc (Nat.le_refl _) _) HQ.out), HMR.out _ (World.rowIs.of_block HR.out (((Below.refl _ _).alloc (Nat.le_refl _) _).block g HG0.out))⟩ (fun W' hW' hz hHeld => ?_); have hbz := below_of_allocM hW'; have HZQ := Lib.hid (blk_ltM HQ.out); have HZG := HG0; have HB := Lib.hid (HB.out.trans (Kp.of_below hbz HG0.out)); have HR := Lib.hid (World.rowIs.of_block HR.out (hbz.block g HG0.out)); have HQ := Lib.hid (blk_belowM hbz HQ.out); have HG0 := Lib.hid (World.rowIs.lt HR.out); have HZ := Lib.hid hz; clear hz hW' hbz
          clear hK K
          try simp only [Act.put, List.setIfInBounds_toArray, List.set_cons_zero, List.set_cons_succ]
          refine wpAnyH_ready (rs := [13]) (by kernel_rfl) (by simp) ?_
          refine AllReadyH.cons (o := { dst := none, op := Go.Op.store 89 (Go.Operand.tmp 5) (Go.Operand.tmp 20), type := 0, pos := "aes.go:117", after := #[{ on := 12, ground := Go.Ground.data }, { on := 11, ground := Go.Ground.data }, { on := 11, ground := Go.Ground.chain }, { on := 0, ground := Go.Ground.phase }, { on := 1, ground := Go.Ground.phase }, { on := 2, ground := Go.Ground.phase }, { on := 3, ground := Go.Ground.phase }, { on := 4, ground := Go.Ground.phase }, { on := 5, ground := Go.Ground.phase }, { on := 6, ground := Go.Ground.phase }, { on := 7, ground := Go.Ground.phase }, { on := 8, ground := Go.Ground.phase }, { on := 9, ground := Go.Ground.phase }, { on := 10, ground := Go.Ground.phase }, { on := 11, ground := Go.Ground.phase }, { on := 12, ground := Go.Ground.phase }], guard := none }) rfl (fun K hK => ?_) AllReadyH.nil
          (rw [if_pos (by rfl)]; refine wp_store_row _ _ _ rfl _ #[d0, d1, d2, d3] rfl rfl 89 _ HZ.out (by kernel_rfl) (by rfl) HD1.out ?_)
          refine any_stepM hK ⟨HMQ.out _ ((setRow_other _ _ _ _ (Nat.ne_of_lt HZQ.out)).trans HQ.out), HMR.out _ (World.rowIs.of_block HR.out (setRow_other _ _ _ _ (Nat.ne_of_lt HZG.out)))⟩ (fun W' hW' hHeld => ?_); have HB := Lib.hid (hW'.out ▸ HB.out.setRow (Or.inr ⟨Nat.le_of_lt HZG.out, HQS.out ▸ Nat.le_of_lt HZQ.out⟩) #[d0, d1, d2, d3]); have HR := Lib.hid (hW'.out ▸ (World.rowIs.of_block HR.out (setRow_other _ _ _ #[d0, d1, d2, d3] (Nat.ne_of_lt HZG.out)))); have HQ := Lib.hid (hW'.out ▸ (setRow_other _ _ _ #[d0, d1, d2, d3] (Nat.ne_of_lt HZQ.out)).trans HQ.out); have HZ := Lib.hid (hW'.out ▸ setRow_heap _ _ _ #[d0, d1, d2, d3] 89 (0, 0) HZ.out); clear hW'
          clear hK K
          try simp only [Act.put, List.setIfInBounds_toArray, List.set_cons_zero, List.set_cons_succ]
          refine wpAnyH_done (by kernel_rfl) ?_ _
          refine NoPanic.normal ?_
          go_wp2_with fail
          go_meet
          exact ⟨_, rfl, HZG, HZ, HR, HQ, HB⟩
        ·
          go_simp
          refine alloc_stepM hK ⟨HMQ.out _ (blk_belowM ((Below.refl _ _).alloc (Nat.le_refl _) _) HQ.out), HMR.out _ (World.rowIs.of_block HR.out (((Below.refl _ _).alloc (Nat.le_refl _) _).block g HG0.out))⟩ (fun W' hW' hz hHeld => ?_); have hbz := below_of_allocM hW'; have HZQ := Lib.hid (blk_ltM HQ.out); have HZG := HG0; have HB := Lib.hid (HB.out.trans (Kp.of_below hbz HG0.out)); have HR := Lib.hid (World.rowIs.of_block HR.out (hbz.block g HG0.out)); have HQ := Lib.hid (blk_belowM hbz HQ.out); have HG0 := Lib.hid (World.rowIs.lt HR.out); have HZ := Lib.hid hz; clear hz hW' hbz
          clear hK K
          try simp only [Act.put, List.setIfInBounds_toArray, List.set_cons_zero, List.set_cons_succ]
          refine wpAnyH_ready (rs := [11]) (by kernel_rfl) (by simp) ?_
          refine AllReadyH.cons (o := { dst := some 20, op := Go.Op.call { callee := Go.Callee.value (Go.Operand.func 78), args := #[Go.Operand.tmp 9, Go.Operand.tmp 19], argTypes := #[89, 89] }, type := 89, pos := "aes.go:117", after := #[{ on := 0, ground := Go.Ground.data }, { on := 10, ground := Go.Ground.data }], guard := none }) rfl (fun K hK => ?_) AllReadyH.nil
          (go_simp; go_at_call 78; refine (CO.out _).mono ?_; rintro e w' ⟨rfl, hb⟩; have HB := Lib.hid (HB.out.trans (Kp.of_below hb HG0.out)); have HR := Lib.hid (World.rowIs.of_block HR.out (hb.block g HG0.out)); have HQ := Lib.hid (blk_belowM hb HQ.out); (try have HZ := Lib.hid (blk_belowM hb HZ.out)); have HG0 := Lib.hid (World.rowIs.lt HR.out); clear hb)
          try go_wp2_with fail
          refine hK.out _ _ ?_ (fun hHeld => ?_)
          · (try dsimp only); exact ⟨HMQ.out _ HQ.out, HMR.out _ HR.out⟩
          clear hK K
          try simp only [Act.put, List.setIfInBounds_toArray, List.set_cons_zero, List.set_cons_succ]
          refine wpAnyH_ready (rs := [13]) (by kernel_rfl) (by simp) ?_
          refine AllReadyH.cons (o := { dst := none, op := Go.Op.store 89 (Go.Operand.tmp 5) (Go.Operand.tmp 20), type := 0, pos := "aes.go:117", after := #[{ on := 12, ground := Go.Ground.data }, { on := 11, ground := Go.Ground.data }, { on := 11, ground := Go.Ground.chain }, { on := 0, ground := Go.Ground.phase }, { on := 1, ground := Go.Ground.phase }, { on := 2, ground := Go.Ground.phase }, { on := 3, ground := Go.Ground.phase }, { on := 4, ground := Go.Ground.phase }, { on := 5, ground := Go.Ground.phase }, { on := 6, ground := Go.Ground.phase }, { on := 7, ground := Go.Ground.phase }, { on := 8, ground := Go.Ground.phase }, { on := 9, ground := Go.Ground.phase }, { on := 10, ground := Go.Ground.phase }, { on := 11, ground := Go.Ground.phase }, { on := 12, ground := Go.Ground.phase }], guard := none }) rfl (fun K hK => ?_) AllReadyH.nil
          (rw [if_pos (by rfl)]; refine wp_store_row _ _ _ rfl _ #[d0, d1, d2, d3] rfl rfl 89 _ HZ.out (by kernel_rfl) (by rfl) HD1.out ?_)
          refine any_stepM hK ⟨HMQ.out _ ((setRow_other _ _ _ _ (Nat.ne_of_lt HZQ.out)).trans HQ.out), HMR.out _ (World.rowIs.of_block HR.out (setRow_other _ _ _ _ (Nat.ne_of_lt HZG.out)))⟩ (fun W' hW' hHeld => ?_); have HB := Lib.hid (hW'.out ▸ HB.out.setRow (Or.inr ⟨Nat.le_of_lt HZG.out, HQS.out ▸ Nat.le_of_lt HZQ.out⟩) #[d0, d1, d2, d3]); have HR := Lib.hid (hW'.out ▸ (World.rowIs.of_block HR.out (setRow_other _ _ _ #[d0, d1, d2, d3] (Nat.ne_of_lt HZG.out)))); have HQ := Lib.hid (hW'.out ▸ (setRow_other _ _ _ #[d0, d1, d2, d3] (Nat.ne_of_lt HZQ.out)).trans HQ.out); have HZ := Lib.hid (hW'.out ▸ setRow_heap _ _ _ #[d0, d1, d2, d3] 89 (0, 0) HZ.out); clear hW'
          clear hK K
          try simp only [Act.put, List.setIfInBounds_toArray, List.set_cons_zero, List.set_cons_succ]
          refine wpAnyH_done (by kernel_rfl) ?_ _
          refine NoPanic.normal ?_
          go_wp2_with fail
          go_meet
          exact ⟨_, rfl, HZG, HZ, HR, HQ, HB⟩
      case rest =>
        obtain ⟨z, rfl, HZG, HZ, HR, HQ, HB⟩ := hcut
        clear hat
        have HS16 : Hid (wc.heap[g]? = some (.cells (st16 (mxF a f c)).toList.toArray 82 (0, 0))) := Lib.hid (by rw [Array.toArray_toList]; exact st16_row HR.out)
        have HSR : Hid (∀ j v, [d0, d1, d2, d3][j]? = some v → wc.cell? (Addr.add ⟨z, 0, none⟩ j) = some v) := Lib.hid (fun j v hv => by
          have := World.rangeAt_of_block HZ.out 0 4 j v hv
          rw [← this]
          by_cases e : j = 0
          · subst e; rfl
          · simp [Addr.add, e])
        have HSL : Hid ((st16 (mxF a f c)).toList.length = 16) := Lib.hid (by rw [Array.length_toList, st16_size])
        have HHC : Hid (∀ v ∈ [d0, d1, d2, d3], v.oneCell' = true) := Lib.hid (fun v hv => by
          have := HD1.out
          rw [← Array.all_toList, List.all_eq_true] at this
          exact this v hv)
        have HMN : Hid ([d0, d1, d2, d3].length = Nat.min 4 (16 - 4 * c)) := Lib.hid ((Nat.min_eq_left (show 4 ≤ 16 - 4 * c by omega)).symm)
        have HZQ2 : Hid (q ≠ g) := Lib.hid (Nat.ne_of_gt hgq)
        go_upto_region 5 with fail
        refine wp_region_lin (S := (fun _ => True)) [(0, true), (1, true), (2, true), (3, true), (4, true), (5, true), (6, false)] (by kernel_rfl) (by kernel_rfl) rfl (by kernel_rfl) ?_ (fun hHeld => ?_)
        · (try dsimp only); try exact trivial
        (refine wpL_calm (o := { dst := some 21, op := Go.Op.move (Go.Operand.tmp 0), type := 86, pos := "aes.go:118", after := #[], guard := none }) (v := ?_) rfl (Or.inl ⟨by rfl, ?_⟩) ?_; rotate_left; (focus (intro w hSw; (try dsimp only at hSw); go_simp; (try (with_reducible rfl)); done)); try simp only [Act.put, List.setIfInBounds_toArray, List.set_cons_zero, List.set_cons_succ])
        (refine wpL_calm (o := { dst := some 22, op := Go.Op.nilCheck (Go.Operand.tmp 21), type := 86, pos := "aes.go:118", after := #[{ on := 0, ground := Go.Ground.data }], guard := none }) (v := ?_) rfl (Or.inl ⟨by rfl, ?_⟩) ?_; rotate_left; (focus (intro w hSw; (try dsimp only at hSw); go_simp; (try (with_reducible rfl)); done)); try simp only [Act.put, List.setIfInBounds_toArray, List.set_cons_zero, List.set_cons_succ])
        (refine wpL_calm (o := { dst := some 23, op := Go.Op.move (Go.Operand.tmp 4), type := 3, pos := "aes.go:118", after := #[], guard := none }) (v := ?_) rfl (Or.inl ⟨by rfl, ?_⟩) ?_; rotate_left; (focus (intro w hSw; (try dsimp only at hSw); go_simp; (try (with_reducible rfl)); done)); try simp only [Act.put, List.setIfInBounds_toArray, List.set_cons_zero, List.set_cons_succ])
        (refine wpL_calm (o := { dst := some 24, op := Go.Op.binOp Go.BinOp.mul 3 (Go.Operand.const (Go.Value.int Go.IntKind.i64 4)) (Go.Operand.tmp 23) 3, type := 3, pos := "aes.go:118", after := #[{ on := 2, ground := Go.Ground.data }], guard := none }) (v := ?_) rfl (Or.inl ⟨by rfl, ?_⟩) ?_; rotate_left; (focus (intro w hSw; (try dsimp only at hSw); go_simp; (try (with_reducible rfl)); done)); try simp only [Act.put, List.setIfInBounds_toArray, List.set_cons_zero, List.set_cons_succ])
        (refine wpL_calm (o := { dst := some 25, op := Go.Op.slice 82 (Go.Operand.tmp 22) (some (Go.Operand.tmp 24)) none none, type := 104, pos := "aes.go:118", after := #[{ on := 1, ground := Go.Ground.data }, { on := 3, ground := Go.Ground.data }], guard := none }) (v := ?_) rfl (Or.inl ⟨by rfl, ?_⟩) ?_; rotate_left; (focus (intro w hSw; (try dsimp only at hSw); go_simp; (try (with_reducible rfl)); done)); try simp only [Act.put, List.setIfInBounds_toArray, List.set_cons_zero, List.set_cons_succ])
        (refine wpL_calm (o := { dst := some 26, op := Go.Op.slice 89 (Go.Operand.tmp 5) none none none, type := 104, pos := "aes.go:118", after := #[], guard := none }) (v := ?_) rfl (Or.inl ⟨by rfl, ?_⟩) ?_; rotate_left; (focus (intro w hSw; (try dsimp only at hSw); go_simp; (try (with_reducible rfl)); done)); try simp only [Act.put, List.setIfInBounds_toArray, List.set_cons_zero, List.set_cons_succ])
        refine wpL_loud0 (o := { dst := some 27, op := Go.Op.call { callee := Go.Callee.builtin Go.Builtin.copy, args := #[Go.Operand.tmp 25, Go.Operand.tmp 26], argTypes := #[104, 104] }, type := 3, pos := "aes.go:118", after := #[{ on := 4, ground := Go.Ground.data }, { on := 5, ground := Go.Ground.data }], guard := none }) rfl (by kernel_rfl) (fun K hK => ?_)
        (refine step_copy_ownM rfl (.tmp 25) (.tmp 26) _ _ rfl 66 Try.underlying104 (by kernel_rfl) _ _ _ _ _ _ _ rfl rfl (st16 (mxF a f c)).toList 82 HS16.out [d0, d1, d2, d3] ?_ HSR.out (by rw [HSL.out]; simp; omega) HHC.out ?_; exact HMN.out; intro w9 HW9; have HB := Lib.hid (HW9.out ▸ HB.out.drew.setRow (Or.inl rfl) _); have HR9 : Hid (w9.heap[g]? = some (.cells (splice (st16 (mxF a f c)).toList (4 * c) [d0, d1, d2, d3]).toArray 82 (0, 0))) := Lib.hid (by rw [HW9.out]; exact setRow_heap wc.drew _ _ _ 82 (0, 0) HS16.out); have HQ : Hid (w9.heap[q]? = some (.cells #[v0, v1, v2, v3] 89 (0, 0))) := Lib.hid (by rw [HW9.out]; exact (setRow_other wc.drew _ _ _ HZQ2.out).trans HQ.out); clear HW9 HSR HS16 HSL)
        try go_wp2_with fail
        refine hK.out _ _ ?_
        clear hK K
        try simp only [Act.put, List.setIfInBounds_toArray, List.set_cons_zero, List.set_cons_succ]
        refine wpL_nil ?_
        refine NoPanic.normal ?_
        go_wp2_with fail
        go_roundw
        case rel => exact ⟨c + 1, by go_num, by omega, Lib.hid (splice4 (mxF a f c) (mxF a f (c + 1)) c hlc d0 d1 d2 d3 (fun j hj hjc => by rw [HDV.out j hj hjc]; unfold mxF; rw [if_pos (show j < 4 * (c + 1) by omega)]) (fun j hj hjc => by
          unfold mxF
          by_cases h : j < 4 * c
          · rw [if_pos h, if_pos (show j < 4 * (c + 1) by omega)]
          · rw [if_neg h, if_neg (show ¬ j < 4 * (c + 1) by omega)]) _ g _ HR9.out), HQ, HB⟩
        case measure => simp [intOf]; omega
    · as_aux_lemma =>
      obtain rfl : c = 4 := by omega
      rw [show ((4 : Nat) : Int) = 4 from rfl]
      go_wp2_with fail
      go_end0
      exact ⟨rfl, World.rowIs.congr HR.out fun j hj => by unfold mxF; rw [if_pos (show j < 4 * 4 by omega)], HB.out⟩
end Go.Proofs.Ytbbanhjcchnhpaa

/- Package aes (cellaret): Encrypt. -/
namespace Go.Proofs.Ytbbanhjcchnhpaa
open Go.RowKit Go.Deep
set_option linter.unusedVariables false
set_option linter.unusedSimpArgs false
theorem Kp.cell {g : Nat} {w w' : World} (h : Kp g w w') {b o : Nat} {v : Value} (hn : b ≠ g) (hc : w.cell? ⟨b, o, none⟩ = some v) : w'.cell? ⟨b, o, none⟩ = some v :=
  (World.grownBy.cell_far (row := some g) ⟨h.below.os, h.below.tape, h.below.output, h.below.size, fun k hk hn => h.other k hk (fun e => hn (by rw [e]))⟩ ⟨b, o, none⟩ (block_lt_of_cell hc) (fun e => hn (Option.some.inj e))).trans hc
/-- What columns are multiplied by. -/
def aE (i : Nat) : Nat := if i = 0 then 2 else if i = 3 then 3 else 1
def aD (i : Nat) : Nat := if i = 0 then 14 else if i = 1 then 9 else if i = 2 then 13 else 11
theorem aE_lt (i : Nat) : aE i < 256 := by unfold aE; split; omega; split <;> omega
theorem aD_lt (i : Nat) : aD i < 256 := by unfold aD; split; omega; split; omega; split <;> omega
theorem mixE_any (f : Nat → UInt8) (g : Nat) (w : World) (hR : Hid (w.rowIs g 82 16 (fun j => .int .u8 ((f j).toNat : Int)))) :
    Calls Try.prog 59 #[.pointer (some ⟨g, 0, none⟩), .agg #[.int .u8 2, .int .u8 1, .int .u8 1, .int .u8 3]] w fun e w' => e = .returned (.tuple #[]) ∧ w'.rowIs g 82 16 (fun j => .int .u8 ((mxB aE f j).toNat : Int)) ∧ Kp g w w' := mix_any aE aE_lt f g w hR
theorem mixD_any (f : Nat → UInt8) (g : Nat) (w : World) (hR : Hid (w.rowIs g 82 16 (fun j => .int .u8 ((f j).toNat : Int)))) :
    Calls Try.prog 59 #[.pointer (some ⟨g, 0, none⟩), .agg #[.int .u8 14, .int .u8 9, .int .u8 13, .int .u8 11]] w fun e w' => e = .returned (.tuple #[]) ∧ w'.rowIs g 82 16 (fun j => .int .u8 ((mxB aD f j).toNat : Int)) ∧ Kp g w w' := mix_any aD aD_lt f g w hR
/-- A state behind round k. -/
def encR (W : Nat → UInt32) (f : Nat → UInt8) : Nat → Nat → UInt8
  | 0 => fun j => f j ^^^ wB W 0 j
  | k + 1 => fun j => (if k + 1 < 14 then mxB aE (fun i => bx (encR W f k (srcS 1 i))) j else bx (encR W f k (srcS 1 j))) ^^^ wB W (k + 1) j
theorem encR_mid (W : Nat → UInt32) (f : Nat → UInt8) (k : Nat) (h : k + 1 < 14) : encR W f (k + 1) = fun j => mxB aE (fun i => bx (encR W f k (srcS 1 i))) j ^^^ wB W (k + 1) j := by
  funext j
  show (if k + 1 < 14 then _ else _) ^^^ _ = _
  rw [if_pos h]
theorem encR_end (W : Nat → UInt32) (f : Nat → UInt8) (k : Nat) (h : ¬ k + 1 < 14) : encR W f (k + 1) = fun j => bx (encR W f k (srcS 1 j)) ^^^ wB W (k + 1) j := by
  funext j
  show (if k + 1 < 14 then _ else _) ^^^ _ = _
  rw [if_neg h]
/-- A state's text. -/
def txS (f : Nat → UInt8) : ByteArray := ⟨((List.range 16).map f).toArray⟩
theorem enc_nil (s : ByteArray) (w : World) :
    Calls Try.prog 23 #[.pointer none, .string s] w fun e w' => e = .returned (.tuple #[.string ⟨#[]⟩, .int .i64 1]) ∧ w = w' := by
  go_enter Try.func23, Try.ntmps23
  go_wp2_with fail
  refine (refused_nil s _).mono ?_
  rintro e w' ⟨rfl, rfl⟩
  go_wp2_with fail
  go_ret2
  exact ⟨rfl, rfl⟩
theorem enc_len (kg : Nat) (s : ByteArray) (w : World) (hs : s.size ≠ 16) :
    Calls Try.prog 23 #[.pointer (some ⟨kg, 0, none⟩), .string s] w fun e w' => e = .returned (.tuple #[.string ⟨#[]⟩, .int .i64 6]) ∧ w = w' := by
  go_enter Try.func23, Try.ntmps23
  go_wp2_with fail
  refine (refused_len kg s _ hs).mono ?_
  rintro e w' ⟨rfl, rfl⟩
  go_wp2_with fail
  go_ret2
  exact ⟨rfl, rfl⟩
theorem box16 (f : Nat → UInt8) (w : World) : ∃ w2, Hid ((w.alloc (.cells #[.int .u8 0, .int .u8 0, .int .u8 0, .int .u8 0, .int .u8 0, .int .u8 0, .int .u8 0, .int .u8 0, .int .u8 0, .int .u8 0, .int .u8 0, .int .u8 0, .int .u8 0, .int .u8 0, .int .u8 0, .int .u8 0] 82)).setRow w.heap.size (st16 f) = w2) ∧ Hid (w2.rowIs w.heap.size 82 16 (fun j => .int .u8 ((f j).toNat : Int))) ∧ Below w.heap.size w w2 ∧ w.heap.size < w2.heap.size :=
  ⟨_, Lib.hid rfl, Lib.hid ⟨_, setRow_heap _ _ _ (st16 f) 82 (0, 0) (heap_alloc_new _ _), st16_size f, st16_get f⟩, below_setRow ((Below.refl _ _).alloc (Nat.le_refl _) _) (Nat.le_refl _) _, by simp [World.setRow]⟩
theorem load16 {w : World} {g : Nat} {f : Nat → UInt8} (h : Hid (w.rowIs g 82 16 (fun j => .int .u8 ((f j).toNat : Int)))) : w.heap[g]? = some (.cells (st16 f) 82 (0, 0)) := st16_row h.out
theorem add0_row (f : Nat → UInt8) (W : Nat → UInt32) (p q g kg : Nat) (w : World) (hK : Hid (KeyAt w kg W)) (hgk : kg < g) (hp : p ≠ g) (hq : q ≠ g) (hR : Hid (w.rowIs g 82 16 (fun j => .int .u8 ((f j).toNat : Int))))
    (hP : Hid (w.cell? ⟨p, 0, none⟩ = some (.pointer (some ⟨kg, 0, none⟩)))) (hQ : Hid (w.cell? ⟨q, 0, none⟩ = some (.pointer (some ⟨g, 0, none⟩)))) :
    Calls Try.prog 77 #[.int .i64 0, .pointer (some ⟨p, 0, none⟩), .pointer (some ⟨q, 0, none⟩)] w fun e w' => e = .returned (.tuple #[]) ∧ w'.rowIs g 82 16 (fun j => .int .u8 ((f j ^^^ wB W 0 j).toNat : Int)) ∧ Kp g w w' :=
  (add_row f W p q g kg 0 w (by omega) hK hgk hp hq hR hP hQ).mono fun e w' h => ⟨h.1, h.2.1, h.2.2.1⟩
set_option maxRecDepth 100000 in
set_option maxHeartbeats 3000000 in
theorem enc_any (kg : Nat) (W : Nat → UInt32) (s : ByteArray) (w : World) (hs : s.size = 16) (hK : Hid (KeyAt w kg W)) :
    Calls Try.prog 23 #[.pointer (some ⟨kg, 0, none⟩), .string s] w fun e w' => e = .returned (.tuple #[.string (txS (encR W (bAt s.data.toList) 14)), .int .i64 0]) ∧ Below w.heap.size w w' := by
  have CR := Lib.hid (fun w => read_any s w hs)
  have CF := Lib.hid (fun w => refused_ok kg s w hs)
  obtain ⟨f, hf⟩ : ∃ f, Hid (bAt s.data.toList = f) := ⟨_, Lib.hid rfl⟩
  rw [hf.out] at CR ⊢
  clear hf hs
  have hkl := hK.out.lt
  go_enter Try.func23, Try.ntmps23
  go_wp2_with fail
  refine (CF.out _).mono ?_
  rintro e w' ⟨rfl, rfl⟩
  go_wp2_with fail
  refine (CR.out _).mono ?_
  rintro e w1 ⟨rfl, b1⟩
  clear CF CR
  have HB1 := Lib.hid b1
  have HZ1 := Lib.hid b1.size
  clear b1
  go_upto_region 5 with (refine wpList_store_row rfl _ _ _ rfl w1.heap.size (st16 f) rfl rfl 82 _ (heap_alloc_new _ _) (by rw [st16_size]; kernel_rfl) (by rw [st16_size]; rfl) (st16_one _) ?_)
  obtain ⟨w2, HW2, HR2, b2, hs2⟩ := box16 f w1
  rw [HW2.out]
  clear HW2
  have HK2 : Hid (KeyAt w2 kg W) := Lib.hid ((hK.out.below HB1.out).below b2)
  have HB2 : Hid (Below w.heap.size w w2) := Lib.hid (HB1.out.trans (b2.mono HZ1.out))
  have hgk : kg < w1.heap.size := Nat.lt_of_lt_of_le hkl HZ1.out
  clear HB1 b2 hK hkl
  generalize w1.heap.size = g at *
  go_wp2_with fail
  refine (adder_any kg g _).mono ?_
  rintro e w3 ⟨rfl, hp, hq, b3, hs3⟩
  have HR3 : Hid (w3.rowIs g 82 16 (fun j => .int .u8 ((f j).toNat : Int))) := Lib.hid (World.rowIs.of_block HR2.out (b3.block g hs2))
  have HK3 : Hid (KeyAt w3 kg W) := Lib.hid (HK2.out.below b3)
  have HB3 : Hid (Below w.heap.size w w3) := Lib.hid (HB2.out.trans (b3.mono HB2.out.size))
  have HP3 := Lib.hid hp
  have HQ3 := Lib.hid hq
  have npg : w2.heap.size ≠ g := Nat.ne_of_gt hs2
  have nqg : w2.heap.size + 1 ≠ g := by omega
  clear hp hq b3 hs3 HR2 HK2 HB2 hs2
  generalize w2.heap.size + 1 = q at *
  generalize w2.heap.size = p at *
  go_wp2_with fail
  refine (add0_row f W p q g kg _ HK3 hgk npg nqg HR3 HP3 HQ3).mono ?_
  rintro e w4 ⟨rfl, hr4, hk4⟩
  have HR4 : Hid (w4.rowIs g 82 16 (fun j => .int .u8 ((encR W f (1 - 1) j).toNat : Int))) := Lib.hid hr4
  have HKP := Lib.hid hk4
  clear hr4 hk4 HR3
  go_wp2_with fail
  go_loopw [10] (fun x wi => ∃ n : Nat, x = .int .i64 (n : Int) ∧ 1 ≤ n ∧ n ≤ 15 ∧ Hid (wi.rowIs g 82 16 (fun j => .int .u8 ((encR W f (n - 1) j).toNat : Int))) ∧ Hid (Kp g w3 wi)) (fun x _ => 15 - (intOf x).toNat)
  case atStart => exact ⟨1, rfl, by omega, by omega, HR4, HKP⟩
  clear HR4 HKP
  case round =>
    obtain ⟨n, rfl, hn1, hn2, HR, HP⟩ := hrel
    by_cases hln : n ≤ 14
    · as_aux_lemma =>
      have hni : (n : Int) ≤ 14 := by omega
      go_wp2_with fail
      refine (each_forth (encR W f (n - 1)) g kg W _ (Lib.hid (HK3.out.under hgk HP.out.below)) hgk HR).mono ?_
      rintro e w5 ⟨rfl, r5, k5⟩
      have HP5 := Lib.hid (HP.out.trans k5)
      have HR5 := Lib.hid r5
      clear r5 k5 HR HP
      go_wp2_with fail
      refine (shift_any (fun j => bx (encR W f (n - 1) j)) g 1 _ (by omega) HR5).mono ?_
      rintro e w6 ⟨rfl, r6, k6⟩
      have HP6 := Lib.hid (HP5.out.trans k6)
      have HR6 := Lib.hid r6
      clear r6 k6 HR5 HP5
      by_cases hl : n < 14
      · as_aux_lemma =>
        have hli : (n : Int) < 14 := by omega
        go_wp2_with fail
        refine (mixE_any (fun i => bx (encR W f (n - 1) (srcS 1 i))) g _ HR6).mono ?_
        rintro e w7 ⟨rfl, r7, k7⟩
        have HP7 := Lib.hid (HP6.out.trans k7)
        have HR7 := Lib.hid r7
        clear r7 k7 HR6 HP6
        go_wp2_with fail
        refine (add_row (mxB aE (fun i => bx (encR W f (n - 1) (srcS 1 i)))) W p q g kg n _ (by omega) (Lib.hid (HK3.out.under hgk HP7.out.below)) hgk npg nqg HR7 (Lib.hid (HP7.out.cell npg HP3.out)) (Lib.hid (HP7.out.cell nqg HQ3.out))).mono ?_
        rintro e w8 ⟨rfl, r8, k8, -⟩
        have HP8 := Lib.hid (HP7.out.trans k8)
        have HR8 := Lib.hid r8
        clear r8 k8 HR7 HP7
        go_wp2_with fail
        go_roundw
        case rel => exact ⟨n + 1, by go_num, by omega, by omega, Lib.hid (by
          obtain ⟨k, rfl⟩ : ∃ k, n = k + 1 := ⟨n - 1, by omega⟩
          rw [show k + 1 + 1 - 1 = k + 1 from rfl, encR_mid W f k (by omega)]
          exact HR8.out), HP8⟩
        case measure => simp [intOf]; omega
      · as_aux_lemma =>
        obtain rfl : n = 14 := by omega
        rw [show ((14 : Nat) : Int) = 14 from rfl]
        go_wp2_with fail
        refine (add_row (fun j => bx (encR W f (14 - 1) (srcS 1 j))) W p q g kg 14 _ (by omega) (Lib.hid (HK3.out.under hgk HP6.out.below)) hgk npg nqg HR6 (Lib.hid (HP6.out.cell npg HP3.out)) (Lib.hid (HP6.out.cell nqg HQ3.out))).mono ?_
        rintro e w8 ⟨rfl, r8, k8, -⟩
        have HP8 := Lib.hid (HP6.out.trans k8)
        have HR8 := Lib.hid r8
        clear r8 k8 HR6 HP6
        go_wp2_with fail
        go_roundw
        case rel => exact ⟨15, by first | rfl | go_num, by omega, by omega, Lib.hid (by
          rw [show 15 - 1 = 13 + 1 from rfl, encR_end W f 13 (by omega)]
          exact HR8.out), HP8⟩
        case measure => simp [intOf]
    · as_aux_lemma =>
      obtain rfl : n = 15 := by omega
      rw [show ((15 : Nat) : Int) = 15 from rfl]
      obtain ⟨F, hF⟩ : ∃ F, Hid (encR W f 14 = F) := ⟨_, Lib.hid rfl⟩
      rw [show 15 - 1 = 14 from rfl, hF.out] at HR
      have hr15 := load16 HR
      have HBE := Lib.hid (HB3.out.trans (HP.out.below.mono HZ1.out))
      go_wp2_with (refine wpList_load_row rfl 82 _ rfl g rfl _ _ _ _ hr15 Try.underlying82 rfl (by rw [st16_size]; kernel_rfl) ?_)
      refine (text_any F _).mono ?_
      rintro e w9 ⟨rfl, b9⟩
      go_wp2_with fail
      go_ret2
      exact ⟨by (rw [hF.out]; rfl), HBE.out.trans (b9.mono HBE.out.size)⟩
end Go.Proofs.Ytbbanhjcchnhpaa

/- Package aes (cellaret): Decrypt. -/
namespace Go.Proofs.Ytbbanhjcchnhpaa
open Go.RowKit Go.Deep
set_option linter.unusedVariables false
set_option linter.unusedSimpArgs false
/-- A state behind so many rounds back. -/
def decR (W : Nat → UInt32) (f : Nat → UInt8) : Nat → Nat → UInt8
  | 0 => f
  | t + 1 => fun j => ux (if t = 0 then decR W f t (srcS 3 j) ^^^ wB W (14 - t) (srcS 3 j) else mxB aD (fun i => decR W f t i ^^^ wB W (14 - t) i) (srcS 3 j))
theorem decR_first (W : Nat → UInt32) (f : Nat → UInt8) : decR W f 1 = fun j => ux (decR W f 0 (srcS 3 j) ^^^ wB W 14 (srcS 3 j)) := rfl
theorem decR_next (W : Nat → UInt32) (f : Nat → UInt8) (t : Nat) (h : t ≠ 0) : decR W f (t + 1) = fun j => ux (mxB aD (fun i => decR W f t i ^^^ wB W (14 - t) i) (srcS 3 j)) := by
  funext j
  show ux (if t = 0 then _ else _) = _
  rw [if_neg h]
def decS (W : Nat → UInt32) (f : Nat → UInt8) : Nat → UInt8 := fun j => decR W f 14 j ^^^ wB W 0 j
theorem dec_nil (s : ByteArray) (w : World) :
    Calls Try.prog 26 #[.pointer none, .string s] w fun e w' => e = .returned (.tuple #[.string ⟨#[]⟩, .int .i64 1]) ∧ w = w' := by
  go_enter Try.func26, Try.ntmps26
  go_wp2_with fail
  refine (refused_nil s _).mono ?_
  rintro e w' ⟨rfl, rfl⟩
  go_wp2_with fail
  go_ret2
  exact ⟨rfl, rfl⟩
theorem dec_len (kg : Nat) (s : ByteArray) (w : World) (hs : s.size ≠ 16) :
    Calls Try.prog 26 #[.pointer (some ⟨kg, 0, none⟩), .string s] w fun e w' => e = .returned (.tuple #[.string ⟨#[]⟩, .int .i64 6]) ∧ w = w' := by
  go_enter Try.func26, Try.ntmps26
  go_wp2_with fail
  refine (refused_len kg s _ hs).mono ?_
  rintro e w' ⟨rfl, rfl⟩
  go_wp2_with fail
  go_ret2
  exact ⟨rfl, rfl⟩
set_option maxRecDepth 100000 in
set_option maxHeartbeats 3000000 in
theorem dec_any (kg : Nat) (W : Nat → UInt32) (s : ByteArray) (w : World) (hs : s.size = 16) (hK : Hid (KeyAt w kg W)) :
    Calls Try.prog 26 #[.pointer (some ⟨kg, 0, none⟩), .string s] w fun e w' => e = .returned (.tuple #[.string (txS (decS W (bAt s.data.toList))), .int .i64 0]) ∧ Below w.heap.size w w' := by
  have CR := Lib.hid (fun w => read_any s w hs)
  have CF := Lib.hid (fun w => refused_ok kg s w hs)
  obtain ⟨f, hf⟩ : ∃ f, Hid (bAt s.data.toList = f) := ⟨_, Lib.hid rfl⟩
  rw [hf.out] at CR ⊢
  clear hf hs
  have hkl := hK.out.lt
  go_enter Try.func26, Try.ntmps26
  go_wp2_with fail
  refine (CF.out _).mono ?_
  rintro e w' ⟨rfl, rfl⟩
  go_wp2_with fail
  refine (CR.out _).mono ?_
  rintro e w1 ⟨rfl, b1⟩
  clear CF CR
  have HB1 := Lib.hid b1
  have HZ1 := Lib.hid b1.size
  clear b1
  go_upto_region 5 with (refine wpList_store_row rfl _ _ _ rfl w1.heap.size (st16 f) rfl rfl 82 _ (heap_alloc_new _ _) (by rw [st16_size]; kernel_rfl) (by rw [st16_size]; rfl) (st16_one _) ?_)
  obtain ⟨w2, HW2, HR2, b2, hs2⟩ := box16 f w1
  rw [HW2.out]
  clear HW2
  have HK2 : Hid (KeyAt w2 kg W) := Lib.hid ((hK.out.below HB1.out).below b2)
  have HB2 : Hid (Below w.heap.size w w2) := Lib.hid (HB1.out.trans (b2.mono HZ1.out))
  have hgk : kg < w1.heap.size := Nat.lt_of_lt_of_le hkl HZ1.out
  clear HB1 b2 hK hkl
  generalize w1.heap.size = g at *
  go_wp2_with fail
  refine (adder_any kg g _).mono ?_
  rintro e w3 ⟨rfl, hp, hq, b3, hs3⟩
  have HR3 : Hid (w3.rowIs g 82 16 (fun j => .int .u8 ((f j).toNat : Int))) := Lib.hid (World.rowIs.of_block HR2.out (b3.block g hs2))
  have HK3 : Hid (KeyAt w3 kg W) := Lib.hid (HK2.out.below b3)
  have HB3 : Hid (Below w.heap.size w w3) := Lib.hid (HB2.out.trans (b3.mono HB2.out.size))
  have HP3 := Lib.hid hp
  have HQ3 := Lib.hid hq
  have npg : w2.heap.size ≠ g := Nat.ne_of_gt hs2
  have nqg : w2.heap.size + 1 ≠ g := by omega
  clear hp hq b3 hs3 HR2 HK2 HB2 hs2
  generalize w2.heap.size + 1 = q at *
  generalize w2.heap.size = p at *
  go_wp2_with fail
  go_loopw [10] (fun x wi => ∃ n : Nat, x = .int .i64 (n : Int) ∧ n ≤ 14 ∧ Hid (wi.rowIs g 82 16 (fun j => .int .u8 ((decR W f (14 - n) j).toNat : Int))) ∧ Hid (Kp g w3 wi)) (fun x _ => (intOf x).toNat)
  case atStart => exact ⟨14, rfl, by omega, HR3, Lib.hid (Kp.refl _ _)⟩
  clear HR3
  case round =>
    obtain ⟨n, rfl, hn2, HR, HP⟩ := hrel
    by_cases hln : 1 ≤ n
    · as_aux_lemma =>
      have hni : (1 : Int) ≤ n := by omega
      have hnw : IntKind.i64.wrap ((n : Int) - 1) = ((n - 1 : Nat) : Int) := by rw [IntWalk.i64_in _ (by omega)]; omega
      obtain ⟨t, ht⟩ : ∃ t, Hid (14 - n = t) := ⟨_, Lib.hid rfl⟩
      rw [ht.out] at HR
      go_wp2_with fail
      refine (add_row (decR W f t) W p q g kg n _ hn2 (Lib.hid (HK3.out.under hgk HP.out.below)) hgk npg nqg HR (Lib.hid (HP.out.cell npg HP3.out)) (Lib.hid (HP.out.cell nqg HQ3.out))).mono ?_
      rintro e w5 ⟨rfl, r5, k5, -⟩
      have HP5 := Lib.hid (HP.out.trans k5)
      have HR5 := Lib.hid r5
      clear r5 k5 HR HP
      by_cases hl : n < 14
      · as_aux_lemma =>
        have hli : (n : Int) < 14 := by omega
        go_wp2_with fail
        refine (mixD_any (fun i => decR W f t i ^^^ wB W n i) g _ HR5).mono ?_
        rintro e w6 ⟨rfl, r6, k6⟩
        have HP6 := Lib.hid (HP5.out.trans k6)
        have HR6 := Lib.hid r6
        clear r6 k6 HR5 HP5
        go_wp2_with fail
        refine (shift_any (mxB aD (fun i => decR W f t i ^^^ wB W n i)) g 3 _ (by omega) HR6).mono ?_
        rintro e w7 ⟨rfl, r7, k7⟩
        have HP7 := Lib.hid (HP6.out.trans k7)
        have HR7 := Lib.hid r7
        clear r7 k7 HR6 HP6
        go_wp2_with fail
        refine (each_back (fun j => mxB aD (fun i => decR W f t i ^^^ wB W n i) (srcS 3 j)) g kg W _ (Lib.hid (HK3.out.under hgk HP7.out.below)) hgk HR7).mono ?_
        rintro e w8 ⟨rfl, r8, k8⟩
        have HP8 := Lib.hid (HP7.out.trans k8)
        have HR8 := Lib.hid r8
        clear r8 k8 HR7 HP7
        go_wp2_with fail
        go_roundw
        case rel => exact ⟨n - 1, by first | rfl | go_num, by omega, Lib.hid (by
          rw [show 14 - (n - 1) = t + 1 by have := ht.out; omega, decR_next W f t (by have := ht.out; omega), show 14 - t = n by have := ht.out; omega]
          exact HR8.out), HP8⟩
        case measure => simp [intOf]; omega
      · as_aux_lemma =>
        obtain rfl : n = 14 := by omega
        obtain rfl : t = 0 := by have := ht.out; omega
        rw [show ((14 : Nat) : Int) = 14 from rfl] at *
        go_wp2_with fail
        refine (shift_any (fun i => decR W f 0 i ^^^ wB W 14 i) g 3 _ (by omega) HR5).mono ?_
        rintro e w7 ⟨rfl, r7, k7⟩
        have HP7 := Lib.hid (HP5.out.trans k7)
        have HR7 := Lib.hid r7
        clear r7 k7 HR5 HP5
        go_wp2_with fail
        refine (each_back (fun j => decR W f 0 (srcS 3 j) ^^^ wB W 14 (srcS 3 j)) g kg W _ (Lib.hid (HK3.out.under hgk HP7.out.below)) hgk HR7).mono ?_
        rintro e w8 ⟨rfl, r8, k8⟩
        have HP8 := Lib.hid (HP7.out.trans k8)
        have HR8 := Lib.hid r8
        clear r8 k8 HR7 HP7
        go_wp2_with fail
        go_roundw
        case rel => exact ⟨13, by first | rfl | go_num, by omega, HR8, HP8⟩
        case measure => simp [intOf]
    · as_aux_lemma =>
      obtain rfl : n = 0 := by omega
      rw [show ((0 : Nat) : Int) = 0 from rfl]
      go_wp2_with fail
      refine (add0_row (decR W f (14 - 0)) W p q g kg _ (Lib.hid (HK3.out.under hgk HP.out.below)) hgk npg nqg HR (Lib.hid (HP.out.cell npg HP3.out)) (Lib.hid (HP.out.cell nqg HQ3.out))).mono ?_
      rintro e w8 ⟨rfl, r8, k8⟩
      have HP8 := Lib.hid (HP.out.trans k8)
      have HR8 := Lib.hid r8
      clear r8 k8 HR HP
      obtain ⟨F, hF⟩ : ∃ F, Hid ((fun j => decR W f (14 - 0) j ^^^ wB W 0 j) = F) := ⟨_, Lib.hid rfl⟩
      have HR9 : Hid (w8.rowIs g 82 16 (fun j => .int .u8 ((F j).toNat : Int))) := Lib.hid (by rw [← hF.out]; exact HR8.out)
      clear HR8
      have hr15 := load16 HR9
      have HBE := Lib.hid (HB3.out.trans (HP8.out.below.mono HZ1.out))
      go_wp2_with (refine wpList_load_row rfl 82 _ rfl g rfl _ _ _ _ hr15 Try.underlying82 rfl (by rw [st16_size]; kernel_rfl) ?_)
      refine (text_any F _).mono ?_
      rintro e w9 ⟨rfl, b9⟩
      go_wp2_with fail
      go_ret2
      exact ⟨by (rw [← hF.out]; rfl), HBE.out.trans (b9.mono HBE.out.size)⟩
end Go.Proofs.Ytbbanhjcchnhpaa

/- Package aes (cellaret): what is encrypted is decrypted to what it was, and the other way round. -/
namespace Go.Proofs.Ytbbanhjcchnhpaa
open Go.RowKit Go.Deep
set_option linter.unusedVariables false
set_option linter.unusedSimpArgs false
theorem col0 (a x : Nat → Nat) : colT a x 16 0 = gmul (a 0) (x 0) ^^^ gmul (a 1) (x 3) ^^^ gmul (a 2) (x 2) ^^^ gmul (a 3) (x 1) := by
  have : colT a x 16 0 = 0 ^^^ gmul (a 0) (x 0) ^^^ gmul (a 1) (x 3) ^^^ gmul (a 2) (x 2) ^^^ gmul (a 3) (x 1) := by simp [colT]
  rw [this, Nat.zero_xor]
theorem col1 (a x : Nat → Nat) : colT a x 16 1 = gmul (a 0) (x 1) ^^^ gmul (a 1) (x 0) ^^^ gmul (a 2) (x 3) ^^^ gmul (a 3) (x 2) := by
  have : colT a x 16 1 = 0 ^^^ gmul (a 0) (x 1) ^^^ gmul (a 1) (x 0) ^^^ gmul (a 2) (x 3) ^^^ gmul (a 3) (x 2) := by simp [colT]
  rw [this, Nat.zero_xor]
theorem col2 (a x : Nat → Nat) : colT a x 16 2 = gmul (a 0) (x 2) ^^^ gmul (a 1) (x 1) ^^^ gmul (a 2) (x 0) ^^^ gmul (a 3) (x 3) := by
  have : colT a x 16 2 = 0 ^^^ gmul (a 0) (x 2) ^^^ gmul (a 1) (x 1) ^^^ gmul (a 2) (x 0) ^^^ gmul (a 3) (x 3) := by simp [colT]
  rw [this, Nat.zero_xor]
theorem col3 (a x : Nat → Nat) : colT a x 16 3 = gmul (a 0) (x 3) ^^^ gmul (a 1) (x 2) ^^^ gmul (a 2) (x 1) ^^^ gmul (a 3) (x 0) := by
  have : colT a x 16 3 = 0 ^^^ gmul (a 0) (x 3) ^^^ gmul (a 1) (x 2) ^^^ gmul (a 2) (x 1) ^^^ gmul (a 3) (x 0) := by simp [colT]
  rw [this, Nat.zero_xor]
/-- Two rows of four that undo each other. -/
structure Undo (a b : Nat → Nat) : Prop where
  h0 : ∀ t, t < 256 → gmul (b 0) (gmul (a 0) t) ^^^ gmul (b 1) (gmul (a 3) t) ^^^ gmul (b 2) (gmul (a 2) t) ^^^ gmul (b 3) (gmul (a 1) t) = t
  h1 : ∀ t, t < 256 → gmul (b 0) (gmul (a 3) t) ^^^ gmul (b 1) (gmul (a 2) t) ^^^ gmul (b 2) (gmul (a 1) t) ^^^ gmul (b 3) (gmul (a 0) t) = 0
  h2 : ∀ t, t < 256 → gmul (b 0) (gmul (a 2) t) ^^^ gmul (b 1) (gmul (a 1) t) ^^^ gmul (b 2) (gmul (a 0) t) ^^^ gmul (b 3) (gmul (a 3) t) = 0
  h3 : ∀ t, t < 256 → gmul (b 0) (gmul (a 1) t) ^^^ gmul (b 1) (gmul (a 0) t) ^^^ gmul (b 2) (gmul (a 3) t) ^^^ gmul (b 3) (gmul (a 2) t) = 0
theorem undoDE : Undo aE aD :=
  ⟨fun t h => of_decide_eq_true (all1 (p := fun t => decide (gmul (aD 0) (gmul (aE 0) t) ^^^ gmul (aD 1) (gmul (aE 3) t) ^^^ gmul (aD 2) (gmul (aE 2) t) ^^^ gmul (aD 3) (gmul (aE 1) t) = t)) 256 (by decide +kernel) t h),
   fun t h => of_decide_eq_true (all1 (p := fun t => decide (gmul (aD 0) (gmul (aE 3) t) ^^^ gmul (aD 1) (gmul (aE 2) t) ^^^ gmul (aD 2) (gmul (aE 1) t) ^^^ gmul (aD 3) (gmul (aE 0) t) = 0)) 256 (by decide +kernel) t h),
   fun t h => of_decide_eq_true (all1 (p := fun t => decide (gmul (aD 0) (gmul (aE 2) t) ^^^ gmul (aD 1) (gmul (aE 1) t) ^^^ gmul (aD 2) (gmul (aE 0) t) ^^^ gmul (aD 3) (gmul (aE 3) t) = 0)) 256 (by decide +kernel) t h),
   fun t h => of_decide_eq_true (all1 (p := fun t => decide (gmul (aD 0) (gmul (aE 1) t) ^^^ gmul (aD 1) (gmul (aE 0) t) ^^^ gmul (aD 2) (gmul (aE 3) t) ^^^ gmul (aD 3) (gmul (aE 2) t) = 0)) 256 (by decide +kernel) t h)⟩
theorem undoED : Undo aD aE :=
  ⟨fun t h => of_decide_eq_true (all1 (p := fun t => decide (gmul (aE 0) (gmul (aD 0) t) ^^^ gmul (aE 1) (gmul (aD 3) t) ^^^ gmul (aE 2) (gmul (aD 2) t) ^^^ gmul (aE 3) (gmul (aD 1) t) = t)) 256 (by decide +kernel) t h),
   fun t h => of_decide_eq_true (all1 (p := fun t => decide (gmul (aE 0) (gmul (aD 3) t) ^^^ gmul (aE 1) (gmul (aD 2) t) ^^^ gmul (aE 2) (gmul (aD 1) t) ^^^ gmul (aE 3) (gmul (aD 0) t) = 0)) 256 (by decide +kernel) t h),
   fun t h => of_decide_eq_true (all1 (p := fun t => decide (gmul (aE 0) (gmul (aD 2) t) ^^^ gmul (aE 1) (gmul (aD 1) t) ^^^ gmul (aE 2) (gmul (aD 0) t) ^^^ gmul (aE 3) (gmul (aD 3) t) = 0)) 256 (by decide +kernel) t h),
   fun t h => of_decide_eq_true (all1 (p := fun t => decide (gmul (aE 0) (gmul (aD 1) t) ^^^ gmul (aE 1) (gmul (aD 0) t) ^^^ gmul (aE 2) (gmul (aD 3) t) ^^^ gmul (aE 3) (gmul (aD 2) t) = 0)) 256 (by decide +kernel) t h)⟩
/-- Four variables, sixteen products, put together by variables. -/
theorem regroup (A0 A1 A2 A3 B0 B1 B2 B3 C0 C1 C2 C3 D0 D1 D2 D3 : Nat) :
    (A0 ^^^ A1 ^^^ A2 ^^^ A3) ^^^ (B0 ^^^ B1 ^^^ B2 ^^^ B3) ^^^ (C0 ^^^ C1 ^^^ C2 ^^^ C3) ^^^ (D0 ^^^ D1 ^^^ D2 ^^^ D3) = (A0 ^^^ B3 ^^^ C2 ^^^ D1) ^^^ (A3 ^^^ B2 ^^^ C1 ^^^ D0) ^^^ (A2 ^^^ B1 ^^^ C0 ^^^ D3) ^^^ (A1 ^^^ B0 ^^^ C3 ^^^ D2) := by ac_rfl
theorem undo1 {a b : Nat → Nat} (h : Undo a b) (x0 x1 x2 x3 : Nat) (l0 : x0 < 256) (l1 : x1 < 256) (l2 : x2 < 256) (l3 : x3 < 256) :
    gmul (b 0) (gmul (a 0) x0 ^^^ gmul (a 1) x3 ^^^ gmul (a 2) x2 ^^^ gmul (a 3) x1) ^^^ gmul (b 1) (gmul (a 0) x3 ^^^ gmul (a 1) x2 ^^^ gmul (a 2) x1 ^^^ gmul (a 3) x0) ^^^ gmul (b 2) (gmul (a 0) x2 ^^^ gmul (a 1) x1 ^^^ gmul (a 2) x0 ^^^ gmul (a 3) x3) ^^^ gmul (b 3) (gmul (a 0) x1 ^^^ gmul (a 1) x0 ^^^ gmul (a 2) x3 ^^^ gmul (a 3) x2) = x0 := by
  simp only [gmul_add_right]
  rw [regroup, h.h0 x0 l0, h.h1 x1 l1, h.h2 x2 l2, h.h3 x3 l3, Nat.xor_zero, Nat.xor_zero, Nat.xor_zero]
theorem undo_col {a b : Nat → Nat} (h : Undo a b) (x : Nat → Nat) (hx : ∀ i, x i < 256) (k : Nat) (hk : k < 4) : colT b (fun i => colT a x 16 i) 16 k = x k := by
  rcases (show k = 0 ∨ k = 1 ∨ k = 2 ∨ k = 3 by omega) with rfl | rfl | rfl | rfl
  · rw [col0]; simp only [col0, col1, col2, col3]; exact undo1 h _ _ _ _ (hx 0) (hx 1) (hx 2) (hx 3)
  · rw [col1]; simp only [col0, col1, col2, col3]; exact undo1 h _ _ _ _ (hx 1) (hx 2) (hx 3) (hx 0)
  · rw [col2]; simp only [col0, col1, col2, col3]; exact undo1 h _ _ _ _ (hx 2) (hx 3) (hx 0) (hx 1)
  · rw [col3]; simp only [col0, col1, col2, col3]; exact undo1 h _ _ _ _ (hx 3) (hx 0) (hx 1) (hx 2)
theorem colT_congr (a x y : Nat → Nat) (h : ∀ i, i < 4 → x i = y i) (t k : Nat) : colT a x t k = colT a y t k := by
  induction t with
  | zero => rfl
  | succ t ih => unfold colT; rw [ih, h (t % 4) (Nat.mod_lt _ (by decide))]
theorem mxB_congr (a : Nat → Nat) (f g : Nat → UInt8) (h : ∀ i, i < 16 → f i = g i) (j : Nat) (hj : j < 16) : mxB a f j = mxB a g j := by
  unfold mxB
  rw [colT_congr a _ _ (fun i hi => by rw [h (4 * (j / 4) + i) (by omega)])]
theorem mxB_undo {a b : Nat → Nat} (h : Undo a b) (ha : ∀ i, a i < 256) (hb : ∀ i, b i < 256) (f : Nat → UInt8) (j : Nat) (hj : j < 16) : mxB b (mxB a f) j = f j := by
  rw [← UInt8.toNat_inj, mxB_nat _ _ _ hb]
  rw [colT_congr b _ (fun i => colT a (fun i' => (f (4 * (j / 4) + i')).toNat) 16 i) (fun i hi => by rw [mxB_nat _ _ _ ha, show (4 * (j / 4) + i) / 4 = j / 4 by omega, show (4 * (j / 4) + i) % 4 = i by omega])]
  rw [undo_col h _ (fun i => UInt8.toNat_lt _) (j % 4) (by omega), show 4 * (j / 4) + j % 4 = j by omega]
theorem src31 (j : Nat) (hj : j < 16) : srcS 3 (srcS 1 j) = j := by unfold srcS; omega
theorem src13 (j : Nat) (hj : j < 16) : srcS 1 (srcS 3 j) = j := by unfold srcS; omega
theorem src_lt (b j : Nat) : srcS b j < 16 := by unfold srcS; omega
theorem xor_back (a b : UInt8) : a ^^^ b ^^^ b = a := by rw [UInt8.xor_assoc, UInt8.xor_self, UInt8.xor_zero]
theorem dec_back (W : Nat → UInt32) (f : Nat → UInt8) (t : Nat) (ht : t ≤ 14) : ∀ j, j < 16 → decR W (encR W f 14) t j = encR W f (14 - t) j := by
  induction t with
  | zero => intro j hj; rfl
  | succ t ih =>
    intro j hj
    have hi := ih (by omega)
    by_cases h0 : t = 0
    · subst h0
      rw [show 0 + 1 = 1 from rfl, decR_first, show decR W (encR W f 14) 0 = encR W f (13 + 1) from rfl, encR_end W f 13 (by omega)]
      show ux (bx (encR W f 13 (srcS 1 (srcS 3 j))) ^^^ wB W 14 (srcS 3 j) ^^^ wB W 14 (srcS 3 j)) = _
      rw [xor_back, ux_bx, src13 j hj]
    · rw [decR_next W _ t h0]
      show ux (mxB aD (fun i => decR W (encR W f 14) t i ^^^ wB W (14 - t) i) (srcS 3 j)) = _
      obtain ⟨k, hk⟩ : ∃ k, 14 - t = k + 1 := ⟨13 - t, by omega⟩
      rw [mxB_congr aD _ (mxB aE (fun i => bx (encR W f k (srcS 1 i)))) (fun i hi' => by
        rw [hi i hi', hk, encR_mid W f k (by omega)]
        exact xor_back _ _) _ (src_lt 3 j)]
      rw [mxB_undo undoDE aE_lt aD_lt _ _ (src_lt 3 j), src13 j hj, ux_bx, show 14 - (t + 1) = k by omega]
theorem decS_encR (W : Nat → UInt32) (f : Nat → UInt8) (j : Nat) (hj : j < 16) : decS W (encR W f 14) j = f j := by
  unfold decS
  rw [dec_back W f 14 (by omega) j hj]
  exact xor_back _ _
theorem enc_back (W : Nat → UInt32) (f : Nat → UInt8) (k : Nat) (hk : k ≤ 13) : ∀ j, j < 16 → encR W (decS W f) k j = decR W f (14 - k) j := by
  induction k with
  | zero => intro j hj; exact xor_back _ _
  | succ k ih =>
    intro j hj
    have hi := ih (by omega)
    obtain ⟨t, ht⟩ : ∃ t, 14 - k = t + 1 := ⟨13 - k, by omega⟩
    rw [encR_mid W _ k (by omega)]
    show mxB aE (fun i => bx (encR W (decS W f) k (srcS 1 i))) j ^^^ wB W (k + 1) j = _
    rw [mxB_congr aE _ (mxB aD (fun i => decR W f t i ^^^ wB W (14 - t) i)) (fun i hi' => by
      rw [hi _ (src_lt 1 i), ht, decR_next W f t (by omega), bx_ux, src31 i hi']) _ hj]
    rw [mxB_undo undoED aD_lt aE_lt _ _ hj, show 14 - t = k + 1 by omega, show 14 - (k + 1) = t by omega]
    exact xor_back _ _
theorem encR_decS (W : Nat → UInt32) (f : Nat → UInt8) (j : Nat) (hj : j < 16) : encR W (decS W f) 14 j = f j := by
  rw [show (14 : Nat) = 13 + 1 from rfl, encR_end W _ 13 (by omega)]
  show bx (encR W (decS W f) 13 (srcS 1 j)) ^^^ wB W 14 j = _
  rw [enc_back W f 13 (by omega) _ (src_lt 1 j), show 14 - 13 = 1 from rfl, decR_first]
  show bx (ux (f (srcS 3 (srcS 1 j)) ^^^ wB W 14 (srcS 3 (srcS 1 j)))) ^^^ wB W 14 j = _
  rw [bx_ux, src31 j hj, xor_back]
theorem bAt_txS (f : Nat → UInt8) (j : Nat) (hj : j < 16) : bAt (txS f).data.toList j = f j := by
  unfold bAt txS
  simp [hj]
theorem txS_size (f : Nat → UInt8) : (txS f).size = 16 := by
  rw [Lib.size_eq]; unfold txS; simp
theorem encR_congr (W : Nat → UInt32) (f g : Nat → UInt8) (h : ∀ j, j < 16 → f j = g j) (k : Nat) : ∀ j, j < 16 → encR W f k j = encR W g k j := by
  induction k with
  | zero => intro j hj; show f j ^^^ _ = g j ^^^ _; rw [h j hj]
  | succ k ih =>
    intro j hj
    show (if k + 1 < 14 then mxB aE (fun i => bx (encR W f k (srcS 1 i))) j else bx (encR W f k (srcS 1 j))) ^^^ _ = (if k + 1 < 14 then mxB aE (fun i => bx (encR W g k (srcS 1 i))) j else bx (encR W g k (srcS 1 j))) ^^^ _
    rw [mxB_congr aE _ (fun i => bx (encR W g k (srcS 1 i))) (fun i hi => by rw [ih _ (src_lt 1 i)]) j hj, ih _ (src_lt 1 j)]
theorem decR_congr (W : Nat → UInt32) (f g : Nat → UInt8) (h : ∀ j, j < 16 → f j = g j) (k : Nat) : ∀ j, j < 16 → decR W f k j = decR W g k j := by
  induction k with
  | zero => exact h
  | succ k ih =>
    intro j hj
    show ux (if k = 0 then decR W f k (srcS 3 j) ^^^ wB W (14 - k) (srcS 3 j) else mxB aD (fun i => decR W f k i ^^^ wB W (14 - k) i) (srcS 3 j)) = ux (if k = 0 then decR W g k (srcS 3 j) ^^^ wB W (14 - k) (srcS 3 j) else mxB aD (fun i => decR W g k i ^^^ wB W (14 - k) i) (srcS 3 j))
    rw [mxB_congr aD _ (fun i => decR W g k i ^^^ wB W (14 - k) i) (fun i hi => by rw [ih _ hi]) _ (src_lt 3 j), ih _ (src_lt 3 j)]
theorem txS_congr (f g : Nat → UInt8) (h : ∀ j, j < 16 → f j = g j) : txS f = txS g := by
  unfold txS
  rw [List.map_congr_left (fun j hj => h j (List.mem_range.1 hj))]
theorem txS_bAt (s : ByteArray) (hs : s.size = 16) : txS (bAt s.data.toList) = s := by
  have hl : s.data.toList.length = 16 := by rw [← Lib.size_eq]; exact hs
  have : (List.range 16).map (bAt s.data.toList) = s.data.toList := by
    apply List.ext_getElem?
    intro i
    rw [List.getElem?_map]
    by_cases h : i < 16
    · have h' : i < s.data.toList.length := by omega
      rw [List.getElem?_range h, List.getElem?_eq_getElem h']
      show some ((s.data.toList[i]?).getD 0) = _
      rw [List.getElem?_eq_getElem h']
      rfl
    · rw [List.getElem?_eq_none (by simp; omega), List.getElem?_eq_none (by omega)]; rfl
  unfold txS
  rw [this]
/-- There and back. -/
theorem dec_enc_text (W : Nat → UInt32) (s : ByteArray) (hs : s.size = 16) : txS (decS W (bAt (txS (encR W (bAt s.data.toList) 14)).data.toList)) = s := by
  rw [txS_congr _ (bAt s.data.toList) (fun j hj => by
    show decR W _ 14 j ^^^ wB W 0 j = _
    rw [decR_congr W _ (encR W (bAt s.data.toList) 14) (fun i hi => bAt_txS _ i hi) 14 j hj]
    exact decS_encR W _ j hj), txS_bAt s hs]
theorem enc_dec_text (W : Nat → UInt32) (s : ByteArray) (hs : s.size = 16) : txS (encR W (bAt (txS (decS W (bAt s.data.toList))).data.toList) 14) = s := by
  rw [txS_congr _ (bAt s.data.toList) (fun j hj => by
    rw [encR_congr W _ (decS W (bAt s.data.toList)) (fun i hi => bAt_txS _ i hi) 14 j hj]
    exact encR_decS W _ j hj), txS_bAt s hs]
end Go.Proofs.Ytbbanhjcchnhpaa
