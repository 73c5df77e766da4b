/- The contract of tally's Same. -/
import Derived.Test.YtnbmpackjgffaaaTaH
namespace Go.Proofs.Ytnbmpackjgffaaa
open Go.RowKit Go.Deep
set_option linter.unusedVariables false
attribute [local go_sem] unary_negf run_store_complex run_store_float
/-- A load of a whole row by a guarded operation that is wanted. -/
theorem wpList_load_mid_g {P : Program} {ops : Array Oper} {rest : List Oper} {op : Oper} {a : Act} {w : World} {Q : Exit → Act → World → Prop} (hw : Region.wanted op (yielded ops a.tmps) = true) (ty : TypeId) (x : Operand) (ho : op.op = .load ty x)
    (b o : Nat) (hx : a.eval x = .pointer (some ⟨b, o, none⟩)) (cs : List Value) (d : TypeDesc) (hc : w.rangeAt b o cs)
    (hu : P.underlying ty = some d) (hd : d.isRow = true) (hi : (P.info? ty).map (·.size) = some cs.length)
    (h : wpList P ops Q rest (a.put op.dst (.agg cs.toArray)) w) : wpList P ops Q (op :: rest) a w := by
  unfold wpList
  rw [if_pos hw]
  exact .inl (wp_load_mid ty x ho b o hx cs d hc hu hd hi h)
def eqRow (f g : Nat → Int) (n : Nat) : Bool := (List.range n).all fun i => f i == g i
theorem eqRow_iff (f g : Nat → Int) (n : Nat) : eqRow f g n = true ↔ ∀ i, i < n → f i = g i := by unfold eqRow; simp
/-- Two tallies, part by part. -/
def sameT (A B : Tl) : Bool := eqRow A.a B.a 24 && (eqRow A.e B.e 32 && (decide (A.b = B.b) && (sameF A.x B.x && sameF A.y B.y)))
set_option maxRecDepth 100000 in
set_option maxHeartbeats 4000000 in
theorem same_tally (A B : Tl) (w : World) (h1 : A.x < 18446744073709551616) (h2 : A.y < 18446744073709551616) (h3 : B.x < 18446744073709551616) (h4 : B.y < 18446744073709551616) :
    Calls Try.prog 14 #[.agg (tcells A), .agg (tcells B)] w fun e w' => e = .returned (.bool (sameT A B)) ∧ Below w.heap.size w w' := by
  have HSM := Lib.hid (fun w => same_any A.x A.y B.x B.y w h1 h2 h3 h4)
  clear h1 h2 h3 h4
  obtain ⟨w0, HE0, HA0, B0⟩ := box_tally w A
  obtain ⟨w1, HE1, HB1, B1⟩ := box_tally w0 B
  have s0 : w0.heap.size = w.heap.size + 1 := by rw [← HE0.out]; simp
  have HA1 := HA0.below B1 (by omega)
  have BB := B0.trans (B1.mono (by omega))
  rw [s0] at HB1
  have ra := HA1.ra
  have rb := HB1.ra
  have ea := HA1.re
  have eb := HB1.re
  have c0 := HA1.cb
  have c1 := HB1.cb
  have d0 := HA1.cz
  have d1 := HB1.cz
  have HV : Hid (∀ r, (eqRow A.a B.a 24 && (eqRow A.e B.e 32 && (decide (A.b = B.b) && (sameF A.x B.x && sameF A.y B.y)))) = r → Ending.returned (.bool r) = .returned (.bool (sameT A B))) := Lib.hid (by rintro r rfl; rfl)
  have q1 : ∀ w, (binOp .eql 24 (.agg (rowL A.a 24).toArray) (.agg (rowL B.a 24).toArray)).run Try.prog w = .ok (.bool (eqRow A.a B.a 24)) w := run_eql_row (P := Try.prog) A.a B.a Try.underlying24 Try.underlying3 size_int rfl
  have q2 : ∀ w, (binOp .eql 25 (.agg (rowL A.e 32).toArray) (.agg (rowL B.e 32).toArray)).run Try.prog w = .ok (.bool (eqRow A.e B.e 32)) w := run_eql_row (P := Try.prog) A.e B.e Try.underlying25 Try.underlying3 size_int rfl
  have HW : Hid (((w.alloc (.cells (tcells A) 28)).alloc (.cells (tcells B) 28)) = w1) := Lib.hid (by rw [HE0.out, HE1.out])
  clear HE0 HE1 HA0 HA1 HB1 B0 B1 s0
  cases h1 : eqRow A.a B.a 24
  · rw [h1] at q1
    have HF := Lib.hid h1
    clear h1
    go_enter Try.func14, Try.ntmps14
    go_upto_region 1 with fail
    rw [HW.out]
    clear HW
    go_wp2_with (first
      | (refine wpList_load_mid rfl _ _ rfl w.heap.size 0 rfl (rowL A.a 24) _ ra Try.underlying24 rfl (by rw [rowL_length]; kernel_rfl) ?_)
      | (refine wpList_load_mid rfl _ _ rfl (w.heap.size + 1) 0 rfl (rowL B.a 24) _ rb Try.underlying24 rfl (by rw [rowL_length]; kernel_rfl) ?_))
    go_ret
    exact ⟨HV.out _ (by rw [HF.out]; rfl), BB⟩
  · rw [h1] at q1
    have HF := Lib.hid h1
    clear h1
    cases h2 : eqRow A.e B.e 32
    · rw [h2] at q2
      have HG := Lib.hid h2
      clear h2
      go_enter Try.func14, Try.ntmps14
      go_upto_region 1 with fail
      rw [HW.out]
      clear HW
      go_wp2_with (first
        | (refine wpList_load_mid rfl _ _ rfl w.heap.size 0 rfl (rowL A.a 24) _ ra Try.underlying24 rfl (by rw [rowL_length]; kernel_rfl) ?_)
        | (refine wpList_load_mid rfl _ _ rfl (w.heap.size + 1) 0 rfl (rowL B.a 24) _ rb Try.underlying24 rfl (by rw [rowL_length]; kernel_rfl) ?_)
        | (refine wpList_load_mid_g rfl _ _ rfl w.heap.size 24 rfl (rowL A.e 32) _ ea Try.underlying25 rfl (by rw [rowL_length]; kernel_rfl) ?_)
        | (refine wpList_load_mid_g rfl _ _ rfl (w.heap.size + 1) 24 rfl (rowL B.e 32) _ eb Try.underlying25 rfl (by rw [rowL_length]; kernel_rfl) ?_))
      go_ret
      exact ⟨HV.out _ (by rw [HF.out, HG.out]; rfl), BB⟩
    · rw [h2] at q2
      have HG := Lib.hid h2
      clear h2
      by_cases h3 : A.b = B.b
      · have HH := Lib.hid h3
        have h3' : (A.b == B.b) = true := by simpa using h3
        clear h3
        go_enter Try.func14, Try.ntmps14
        go_upto_region 1 with fail
        rw [HW.out]
        clear HW
        go_wp2_with (first
          | (refine wpList_load_mid rfl _ _ rfl w.heap.size 0 rfl (rowL A.a 24) _ ra Try.underlying24 rfl (by rw [rowL_length]; kernel_rfl) ?_)
          | (refine wpList_load_mid rfl _ _ rfl (w.heap.size + 1) 0 rfl (rowL B.a 24) _ rb Try.underlying24 rfl (by rw [rowL_length]; kernel_rfl) ?_)
          | (refine wpList_load_mid_g rfl _ _ rfl w.heap.size 24 rfl (rowL A.e 32) _ ea Try.underlying25 rfl (by rw [rowL_length]; kernel_rfl) ?_)
          | (refine wpList_load_mid_g rfl _ _ rfl (w.heap.size + 1) 24 rfl (rowL B.e 32) _ eb Try.underlying25 rfl (by rw [rowL_length]; kernel_rfl) ?_)
          | (go_at_call 23; refine (HSM.out _).mono ?_; rintro e w' ⟨rfl, rfl⟩))
        go_ret
        exact ⟨HV.out _ (by rw [HF.out, HG.out, HH.out]; simp), BB⟩
      · have HH := Lib.hid h3
        have h3' : (A.b == B.b) = false := by simpa using h3
        clear h3
        go_enter Try.func14, Try.ntmps14
        go_upto_region 1 with fail
        rw [HW.out]
        clear HW
        go_wp2_with (first
          | (refine wpList_load_mid rfl _ _ rfl w.heap.size 0 rfl (rowL A.a 24) _ ra Try.underlying24 rfl (by rw [rowL_length]; kernel_rfl) ?_)
          | (refine wpList_load_mid rfl _ _ rfl (w.heap.size + 1) 0 rfl (rowL B.a 24) _ rb Try.underlying24 rfl (by rw [rowL_length]; kernel_rfl) ?_)
          | (refine wpList_load_mid_g rfl _ _ rfl w.heap.size 24 rfl (rowL A.e 32) _ ea Try.underlying25 rfl (by rw [rowL_length]; kernel_rfl) ?_)
          | (refine wpList_load_mid_g rfl _ _ rfl (w.heap.size + 1) 24 rfl (rowL B.e 32) _ eb Try.underlying25 rfl (by rw [rowL_length]; kernel_rfl) ?_))
        go_ret
        exact ⟨HV.out _ (by rw [HF.out, HG.out]; simp [HH.out]), BB⟩
end Go.Proofs.Ytnbmpackjgffaaa
