/- Contracts (cellaret): reg.Check. -/
import Derived.Test.YtghnhflomeifmaaReA
namespace Go.Proofs.Ytghnhflomeifmaa
open Go.RowKit Go.Deep
set_option linter.unusedVariables false
set_option linter.unusedSimpArgs false
/-- A load of a row by a guarded operation that is wanted (its kind is asked first). -/
theorem wpList_load_mid_h {P : Program} {ops : Array Oper} {rest : List Oper} {op : Oper} {a : Act} {w : World} {Q : Exit → Act → World → Prop} (ty : TypeId) (x : Operand) (ho : op.op = .load ty x) (hw : Region.wanted op (yielded ops a.tmps) = true)
    (b o : Nat) (hx : a.eval x = .pointer (some ⟨b, o, none⟩)) (cs : List Value) (d : TypeDesc) (hc : w.rangeAt b o cs)
    (hu : P.underlying ty = some d) (hd : d.isRow = true) (hi : (P.info? ty).map (·.size) = some cs.length)
    (h : wpList P ops Q rest (a.put op.dst (.agg cs.toArray)) w) : wpList P ops Q (op :: rest) a w := by
  unfold wpList
  rw [if_pos hw]
  exact .inl (wp_load_mid ty x ho b o hx cs d hc hu hd hi h)
theorem size_u8w : ∀ w, (sizeOf 5).run Try.prog w = .ok 1 w := fun w => by kernel_rfl
/-- Is the second anchor 0? -/
def z1 (R : Rg) : Bool := digL R.d1 == List.replicate 32 0
theorem eql_zero (R : Rg) (w : World) : (binOp .eql 23 (.agg ((digL R.d1).map fun b => .int .u8 (b.toNat : Int)).toArray) (.agg #[.int .u8 0, .int .u8 0, .int .u8 0, .int .u8 0, .int .u8 0, .int .u8 0, .int .u8 0, .int .u8 0, .int .u8 0, .int .u8 0, .int .u8 0, .int .u8 0, .int .u8 0, .int .u8 0, .int .u8 0, .int .u8 0, .int .u8 0, .int .u8 0, .int .u8 0, .int .u8 0, .int .u8 0, .int .u8 0, .int .u8 0, .int .u8 0, .int .u8 0, .int .u8 0, .int .u8 0, .int .u8 0, .int .u8 0, .int .u8 0, .int .u8 0, .int .u8 0])).run Try.prog w = .ok (.bool (z1 R)) w :=
  run_eql_bytes (P := Try.prog) w 23 5 32 Try.underlying23 Try.underlying5 size_u8w (digL R.d1) (List.replicate 32 0) (by simp [digL]) (by simp)
theorem neq_zero (R : Rg) (w : World) : (binOp .neq 23 (.agg ((digL R.d1).map fun b => .int .u8 (b.toNat : Int)).toArray) (.agg #[.int .u8 0, .int .u8 0, .int .u8 0, .int .u8 0, .int .u8 0, .int .u8 0, .int .u8 0, .int .u8 0, .int .u8 0, .int .u8 0, .int .u8 0, .int .u8 0, .int .u8 0, .int .u8 0, .int .u8 0, .int .u8 0, .int .u8 0, .int .u8 0, .int .u8 0, .int .u8 0, .int .u8 0, .int .u8 0, .int .u8 0, .int .u8 0, .int .u8 0, .int .u8 0, .int .u8 0, .int .u8 0, .int .u8 0, .int .u8 0, .int .u8 0, .int .u8 0])).run Try.prog w = .ok (.bool (!z1 R)) w := by
  have h := run_equalIn_bytes (P := Try.prog) w 9998 23 5 32 Try.underlying23 Try.underlying5 size_u8w (digL R.d1) (List.replicate 32 0) (by simp [digL]) (by simp)
  have h2 : (Op.equalIn 10000 23 (.agg ((digL R.d1).map fun b => .int .u8 (b.toNat : Int)).toArray) (.agg #[.int .u8 0, .int .u8 0, .int .u8 0, .int .u8 0, .int .u8 0, .int .u8 0, .int .u8 0, .int .u8 0, .int .u8 0, .int .u8 0, .int .u8 0, .int .u8 0, .int .u8 0, .int .u8 0, .int .u8 0, .int .u8 0, .int .u8 0, .int .u8 0, .int .u8 0, .int .u8 0, .int .u8 0, .int .u8 0, .int .u8 0, .int .u8 0, .int .u8 0, .int .u8 0, .int .u8 0, .int .u8 0, .int .u8 0, .int .u8 0, .int .u8 0, .int .u8 0])).run Try.prog w = .ok (z1 R) w := h
  rw [run_neq_struct, h2]
  rfl
def nf (R : Rg) : Bool := decide (R.di = 0) && (decide (R.a1 = 0) && (decide (R.u1 = 0) && z1 R))
/-- May a register be? -/
def Rt (R : Rg) : Prop := (∀ i, i < 8 → okF R i) ∧ (R.at_ = false → nf R = true) ∧ (R.mo = 0 ∨ R.di = 0)
theorem within_cases (R : Rg) : (∀ i, i < 8 → okF R i) ∨ ∃ k, k < 8 ∧ (∀ i, i < k → okF R i) ∧ ¬ okF R k := by
  by_cases h : ∀ i, i < 8 → okF R i
  · exact .inl h
  · refine .inr ?_
    have hex : ∃ k, k < 8 ∧ ¬ okF R k := by
      refine Classical.byContradiction fun hh => h fun i hi => Classical.byContradiction fun hn => hh ⟨i, hi, hn⟩
    have : ∀ n, (∃ k, k < n ∧ k < 8 ∧ ¬ okF R k) → ∃ k, k < 8 ∧ (∀ i, i < k → okF R i) ∧ ¬ okF R k := by
      intro n
      induction n with
      | zero => rintro ⟨k, hk, _⟩; omega
      | succ n ih =>
        rintro ⟨k, hk, h8, hn⟩
        by_cases hs : ∃ k, k < n ∧ k < 8 ∧ ¬ okF R k
        · exact ih hs
        · refine ⟨k, h8, fun i hi => Classical.byContradiction fun hx => hs ⟨i, by omega, by omega, hx⟩, hn⟩
    obtain ⟨k, hk, hn⟩ := hex
    exact this 8 ⟨k, hk, hk, hn⟩
set_option maxRecDepth 100000 in
set_option maxHeartbeats 4000000 in
theorem check_walk (R : Rg) (w : World) (b : Bool) (hB : Hid (∀ w g, RegAt w g R → Calls Try.prog 21 #[.pointer (some ⟨g, 0, none⟩)] w fun e w' => e = .returned (.bool b) ∧ Below w.heap.size w w')) (r : Int)
    (hr : r = if b = true ∧ (R.at_ = false → nf R = true) ∧ (R.mo = 0 ∨ R.di = 0) then 0 else 2) :
    Calls Try.prog 7 #[.agg (rcells R)] w fun e w' => e = .returned (.int .i64 r) ∧ Below w.heap.size w w' := by
  obtain ⟨w0, HE, HR0, B0⟩ := box_reg w R
  have hH : w0.heap[w.heap.size]? = some (.cells (rcells R) 27 (0, 0)) := HR0
  have HHR := Lib.hid hr
  clear hr
  go_enter Try.func7, Try.ntmps7
  go_wp2_with (refine wpList_load_row rfl _ _ rfl w.heap.size rfl 27 (rcells R) (0, 0) _ (by rw [HE.out]; exact hH) Try.underlying27 rfl (by rw [rcells_size]; kernel_rfl) ?_)
  rw [HE.out]
  clear HE
  refine (within_any _ _).mono ?_
  rintro e w1 ⟨rfl, hw1⟩
  have hT : RegAt w1 w0.heap.size R := by rw [← hw1]; exact heap_alloc_new _ _
  have b1 : Below w0.heap.size w0 w1 := by rw [← hw1]; exact (Below.refl _ _).alloc (Nat.le_refl _) _
  have HR1 := HR0.below b1 HR0.lt
  have B1 := B0.trans (b1.mono B0.size)
  clear hw1 hH b1 HR0 B0
  generalize w0.heap.size = gb at hT ⊢
  have hr1 := HR1.r1
  obtain ⟨c64, c65, c66, c67, c68, c69, c70, c71, c72⟩ := HR1.cells
  have hq := eql_zero R
  have HT := Lib.hid hT
  have HRR := Lib.hid HR1
  clear hT HR1
  go_upto_region 2 with fail
  go_cut [4] from 7 (fun s4 wx => s4 = .bool (nf R) ∧ w1 = wx)
  case first =>
    have HNF : Hid (∀ r, (decide (R.di = 0) && (decide (R.a1 = 0) && (decide (R.u1 = 0) && z1 R))) = r → Value.bool r = .bool (nf R)) := Lib.hid (by rintro r rfl; rfl)
    by_cases h1 : R.di = 0
    · by_cases h2 : R.a1 = 0
      · by_cases h3 : R.u1 = 0
        · have E := Lib.hid (show _ = _ from HNF.out _ rfl)
          simp only [h1, h2, h3, decide_true, Bool.true_and] at E
          rw [h1] at c70
          rw [h2] at c67
          rw [h3] at c69
          clear h1 h2 h3 HNF
          generalize z1 R = zz at hq E
          go_wp2_with (refine wpList_load_mid_h 23 _ rfl rfl w.heap.size 32 rfl ((digL R.d1).map fun b => .int .u8 (b.toNat : Int)) _ hr1 Try.underlying23 rfl (by simp only [List.length_map, digL, List.length_range]; kernel_rfl) ?_)
          go_meet
          exact ⟨E.out, rfl⟩
        · have E := Lib.hid (HNF.out false (by simp [h3]))
          have h3' : (R.u1 == 0) = false := by simpa using h3
          rw [h1] at c70
          rw [h2] at c67
          clear h1 h2 HNF
          go_wp2
          go_meet
          exact ⟨E.out, rfl⟩
      · have E := Lib.hid (HNF.out false (by simp [h2]))
        have h2' : (R.a1 == 0) = false := by simpa using h2
        rw [h1] at c70
        clear h1 HNF
        go_wp2
        go_meet
        exact ⟨E.out, rfl⟩
    · have E := Lib.hid (HNF.out false (by simp [h1]))
      have h1' : (R.di == 0) = false := by simpa using h1
      clear HNF
      go_wp2
      go_meet
      exact ⟨E.out, rfl⟩
  case rest =>
  obtain ⟨rfl, rfl⟩ := hcut
  clear hq hr1 c64 c65 c66 c67 c68 c69
  go_wp2_with fail
  refine (hB.out _ _ HT.out).mono ?_
  rintro e w2 ⟨rfl, b2⟩
  have d70 := (b2.cell (p := ⟨w.heap.size, 70, none⟩) HRR.out.lt).trans c70
  have d71 := (b2.cell (p := ⟨w.heap.size, 71, none⟩) HRR.out.lt).trans c71
  have d72 := (b2.cell (p := ⟨w.heap.size, 72, none⟩) HRR.out.lt).trans c72
  have B2 := B1.trans (b2.mono B1.size)
  have HP : Hid (∀ x, (if b = true ∧ (R.at_ = false → nf R = true) ∧ (R.mo = 0 ∨ R.di = 0) then (0 : Int) else 2) = x → r = x) := Lib.hid (by rintro x rfl; exact HHR.out)
  clear c70 c71 c72 b2 HHR HT HRR B1
  generalize nf R = nn at *
  generalize R.at_ = at_ at *
  generalize R.mo = mo at *
  generalize R.di = di at *
  cases b
  · have E := Lib.hid (HP.out 2 (by simp))
    clear HP
    go_wp2
    go_ret
    exact ⟨by rw [E.out]; first | done | rfl, B2⟩
  · have hm : (mo = 0) ∨ (¬ mo = 0 ∧ di = 0) ∨ (¬ mo = 0 ∧ ¬ di = 0) := by omega
    cases at_ <;> cases nn
    · have E := Lib.hid (HP.out 2 (by simp))
      clear HP
      go_wp2
      go_ret
      exact ⟨by rw [E.out]; first | done | rfl, B2⟩
    all_goals
      rcases hm with h1 | ⟨h1, h2⟩ | ⟨h1, h2⟩
      · have E := Lib.hid (HP.out 0 (by simp [h1]))
        subst h1
        clear HP
        go_wp2
        go_ret
        exact ⟨by rw [E.out]; first | done | rfl, B2⟩
      · have E := Lib.hid (HP.out 0 (by simp [h2]))
        have h1' : (mo != 0) = true := by simpa using h1
        subst h2
        clear HP
        go_wp2
        go_ret
        exact ⟨by rw [E.out]; first | done | rfl, B2⟩
      · have E := Lib.hid (HP.out 2 (by simp [h1, h2]))
        have h1' : (mo != 0) = true := by simpa using h1
        have h2' : (di != 0) = true := by simpa using h2
        clear HP
        go_wp2
        go_ret
        exact ⟨by rw [E.out]; first | done | rfl, B2⟩
theorem check_yes (R : Rg) (w : World) (h : Rt R) : Calls Try.prog 7 #[.agg (rcells R)] w fun e w' => e = .returned (.int .i64 0) ∧ Below w.heap.size w w' :=
  check_walk R w true (Lib.hid fun w g hg => within1_yes R g w hg h.1) 0 (by rw [if_pos ⟨rfl, h.2⟩])
theorem check_no (R : Rg) (w : World) (h : ¬ Rt R) : Calls Try.prog 7 #[.agg (rcells R)] w fun e w' => e = .returned (.int .i64 2) ∧ Below w.heap.size w w' := by
  rcases within_cases R with hk | ⟨k, hk, h1, h2⟩
  · exact check_walk R w true (Lib.hid fun w g hg => within1_yes R g w hg hk) 2 (by rw [if_neg (fun hh => h ⟨hk, hh.2⟩)])
  · exact check_walk R w false (Lib.hid fun w g hg => within1_no R g w hg k hk h1 h2) 2 (by rw [if_neg (fun hh => by cases hh.1)])
end Go.Proofs.Ytghnhflomeifmaa
