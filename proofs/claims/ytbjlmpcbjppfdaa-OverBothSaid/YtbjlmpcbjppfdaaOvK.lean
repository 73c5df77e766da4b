/- Package over: OverNone. -/
import Derived.Test.YtbjlmpcbjppfdaaOvJ
namespace Go.Proofs.Ytbjlmpcbjppfdaa
open Go.RowKit Go.Deep Go.ChangeShapes Go.WideShapes
set_option linter.unusedVariables false
set_option linter.unusedSimpArgs false
theorem put_box (w : World) (a : Int) (s : ByteArray) : ∃ w1 gx, Hid (w.alloc (.cells #[.int .i64 a, .string s] 29) = w1) ∧ Hid (w.heap.size = gx) ∧ Hid (Below w.heap.size w w1) ∧ gx < w1.heap.size ∧ w1.cell? ⟨gx, 0, none⟩ = some (.int .i64 a) ∧ w1.cell? ⟨gx, 1, none⟩ = some (.string s) :=
  ⟨_, _, Lib.hid rfl, Lib.hid rfl, Lib.hid ((Below.refl _ _).alloc (Nat.le_refl _) _), by simp, World.cell?_alloc_at _ _ _ _ rfl, World.cell?_alloc_at _ _ _ _ rfl⟩
set_option maxRecDepth 100000 in
set_option maxHeartbeats 8000000 in
theorem overNone_any (w : World) (x : Pu) (hx : InI x.1) : Calls Try.prog 6 #[putV x] w fun e w' => e = .returned (.bool true) ∧ Below w.heap.size w w' := by
  obtain ⟨a, s⟩ := x
  obtain ⟨w1, gx, HW, HG, HB1, hgx, y0, y1⟩ := put_box w a s
  have CG := Lib.hid (oget_nil a w1)
  have CC := Lib.hid (oclear_nil w1)
  have CO := Lib.hid (ocopy_any 0 0 none [] w1 (Or.inl ⟨rfl, rfl⟩) (by simp) List.Pairwise.nil (fun x hx => absurd hx (by simp)))
  have HX := Lib.hid hx
  clear hx
  unfold putV
  go_enter Try.func6, Try.ntmps6
  go_upto_region 1 with fail
  rw [HW.out, HG.out]
  clear HW
  go_wp2_with fail
  refine CG.out.mono ?_
  rintro e w1' ⟨rfl, rfl⟩
  go_wp2_with fail
  refine CC.out.mono ?_
  rintro e w1' ⟨rfl, rfl⟩
  go_wp2_with fail
  refine CO.out.mono ?_
  rintro e w2 ⟨p1, b1, rfl, q1, k1⟩
  have HB2 := Lib.hid k1
  have y0 := (k1.cell (p := ⟨gx, 0, none⟩) hgx).trans y0
  have y1 := (k1.cell (p := ⟨gx, 1, none⟩) hgx).trans y1
  have hgx2 := Nat.lt_of_lt_of_le hgx k1.size
  have HQ1 := Lib.hid q1
  have CV := Lib.hid (oover_any 0 0 0 0 none none [] [] w2 (Or.inl ⟨rfl, rfl⟩) (Or.inl ⟨rfl, rfl⟩) (by simp) (by simp) (fun x hx => absurd hx (by simp)) List.Pairwise.nil (fun x hx => absurd hx (by simp)))
  clear q1 k1 CG CC CO
  go_wp2_with fail
  refine CV.out.mono ?_
  rintro e w3 ⟨p2, b2, rfl, q2, k2⟩
  have HB3 := Lib.hid (HB2.out.trans (k2.mono HB2.out.size))
  have y0 := (k2.cell (p := ⟨gx, 0, none⟩) hgx2).trans y0
  have y1 := (k2.cell (p := ⟨gx, 1, none⟩) hgx2).trans y1
  have hgx3 := Nat.lt_of_lt_of_le hgx2 k2.size
  have HQ1 := Lib.hid (HQ1.out.below k2)
  have HQ2 := Lib.hid q2
  have CA := Lib.hid (awake16 w3)
  clear q2 k2 CV
  go_wp2_with fail
  refine CA.out.mono ?_
  rintro e w4 ⟨rfl, k4⟩
  have HB4 := Lib.hid (HB3.out.trans (k4.mono HB3.out.size))
  have y0 := (k4.cell (p := ⟨gx, 0, none⟩) hgx3).trans y0
  have y1 := (k4.cell (p := ⟨gx, 1, none⟩) hgx3).trans y1
  have hgx4 := Nat.lt_of_lt_of_le hgx3 k4.size
  have HQ1 := Lib.hid (HQ1.out.below k4)
  have HQ2 := Lib.hid (HQ2.out.below k4)
  have CS := Lib.hid (oset_nil a s w4)
  clear k4 CA
  go_wp2_with fail
  refine CS.out.mono ?_
  rintro e w4' ⟨rfl, rfl⟩
  have CD := Lib.hid (odrop_nil a w4)
  clear CS
  go_wp2_with fail
  refine CD.out.mono ?_
  rintro e w4' ⟨rfl, rfl⟩
  have CL := Lib.hid (olen_nil w4)
  have CP := Lib.hid (oputs_any 0 0 none [] w4 (Or.inl ⟨rfl, rfl⟩) (by simp))
  clear CD
  go_wp2_with fail
  refine CL.out.mono ?_
  rintro e w4' ⟨rfl, rfl⟩
  go_wp2_with fail
  refine CP.out.mono ?_
  rintro e w5 ⟨v, rfl, hO, k5⟩
  obtain ⟨ao, c, e, _⟩ := own_pu hO
  have e : v = .slice ao 0 c := e
  subst e
  have HB5 := Lib.hid (HB4.out.trans (k5.mono HB4.out.size))
  have y0 := (k5.cell (p := ⟨gx, 0, none⟩) hgx4).trans y0
  have y1 := (k5.cell (p := ⟨gx, 1, none⟩) hgx4).trans y1
  have hgx5 := Nat.lt_of_lt_of_le hgx4 k5.size
  have HQ1 := Lib.hid (HQ1.out.below k5)
  have HQ2 := Lib.hid (HQ2.out.below k5)
  have CL1 := Lib.hid (olen_any HQ1.out)
  have CL2 := Lib.hid (olen_any HQ2.out)
  clear k5 hO CL CP
  go_wp2_with fail
  refine CL1.out.mono ?_
  rintro e w5' ⟨rfl, rfl⟩
  go_wp2_with fail
  refine CL2.out.mono ?_
  rintro e w5' ⟨rfl, rfl⟩
  have CS := Lib.hid (oset_any (a, s) HQ1.out HX.out (by simp))
  have hl1 : ((([] : List Pu).length : Nat) : Int) = 0 := rfl
  have hl2 : (((setAll [] [] : List Pu).length : Nat) : Int) = 0 := rfl
  clear CL1 CL2
  go_wp2_with fail
  refine CS.out.mono ?_
  rintro e w6 ⟨rfl, _, k6⟩
  have HB6 := Lib.hid ((HB1.out.trans (HB5.out.mono HB1.out.size)).trans (k6.below.mono HB1.out.size))
  clear k6 CS
  go_wp2_with fail
  go_ret
  exact ⟨rfl, HB6.out⟩
section
variable {H : Type} {enc : TypeId × Value → H} {w : World}
theorem overNone_walk {r : Reach} {b0 : Nat} (v : Value) (d : DataW H) (q : List MemPlace) (w : World) (hok : Value.okWide Try.prog w r b0 29 v) (h : DataW.Trod enc Try.prog w 0 (fun _ => true) true 29 v d q) :
    Calls Try.prog 6 #[v] w fun e w' => e = .returned (.bool true) ∧ Below w.heap.size w w' := by
  obtain ⟨x, rfl, hx⟩ := open_putO hok h
  exact overNone_any w x hx
end
end Go.Proofs.Ytbjlmpcbjppfdaa
