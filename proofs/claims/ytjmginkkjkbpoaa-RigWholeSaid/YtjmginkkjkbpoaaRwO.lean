/- Both rigs: the law's comes, Later. -/
import Derived.Test.YtjmginkkjkbpoaaRwN
namespace Go.Proofs.Ytjmginkkjkbpoaa
open Go.RowKit Go.Deep
set_option linter.unusedVariables false
set_option linter.unusedSimpArgs false
set_option maxRecDepth 100000 in
set_option maxHeartbeats 8000000 in
theorem comes9_any (B C : Nat) (p : RgP) (last : ByteArray) (cs x g0 g1 : Nat) (d i m : Int) (s : ByteArray) (raw : Bool) (x0 x1 x2 y0 y1 y2 : Value) (w : World) (h : Bo B C w p last cs x g0 g1) (hs : s.size < 300) : Calls Try.prog 37 #[.pointer (some ⟨p.R, 0, none⟩), .pointer (some ⟨x, 0, none⟩), .agg #[.int .i64 9, .int .i64 d, .int .i64 i, .int .i64 m, .string s, .bool raw, x0, x1, x2, y0, y1, y2]] w fun e w' => DoP B C p last (cs + 1) x g0 g1 w e w' := by
  obtain ⟨w1, a, HW, HA, HX⟩ := ax_start h #[.int .i64 9, .int .i64 d, .int .i64 i, .int .i64 m, .string s, .bool raw, x0, x1, x2, y0, y1, y2]
  clear h
  have PT := Lib.hid (fun w => text12_any 9 d i m s raw x0 x1 x2 y0 y1 y2 64 w hs (by omega))
  have PB0 := Lib.hid (fun t w => block12_any 9 d i m s raw x0 x1 x2 y0 y1 y2 t w)
  rw [show ((64 : Nat) : Int) = 64 from rfl] at PT
  obtain ⟨t, ht⟩ : ∃ t, textB s raw 64 = t := ⟨_, rfl⟩
  rw [ht] at PT
  clear ht
  have PB := Lib.hid (PB0.out t)
  clear PB0
  have q0 : w1.cell? ⟨a, 0, none⟩ = some (.int .i64 9) := cell_of_row _ _ 0 _ _ _ HX.out.row
  have q3 : w1.cell? ⟨a, 3, none⟩ = some (.int .i64 m) := cell_of_row _ _ 3 _ _ _ HX.out.row
  by_cases h1 : 1 ≤ m
  · by_cases h2 : m ≤ 1099511627776
    · go_enter Try.func37, Try.ntmps37
      go_upto_region 1 with fail
      rw [HW.out, HA.out]
      clear HW HA
      go_wp2_with (refine wpList_load_row rfl _ _ rfl a rfl 34 _ (0, 0) _ HX.out.row Try.underlying34 rfl act_info ?_)
      refine (PT.out _).mono ?_
      rintro e w2 ⟨rfl, b2⟩
      have HX2 := Lib.hid (HX.out.below b2)
      clear b2 HX PT q0 q3
      go_wp2_with (refine wpList_load_row rfl _ _ rfl a rfl 34 _ (0, 0) _ HX2.out.row Try.underlying34 rfl act_info ?_)
      refine (PB.out _).mono ?_
      rintro e w3 ⟨rfl, b3⟩
      have HX3 := Lib.hid (HX2.out.below b3)
      clear b3 HX2 PB
      have HZ : Hid (∀ r, rtE d i t = r → r = 0 → (d = 0 ∨ d = 1) ∧ ∃ n : Nat, n < 288 ∧ i = (n : Int) ∧ t.size = 64) := Lib.hid (fun r h1 h2 => rtE_zero (h1.trans h2))
      obtain ⟨r, hr⟩ : ∃ r, rtE d i t = r := ⟨_, rfl⟩
      rw [hr]
      have HZ := Lib.hid (HZ.out r hr)
      clear hr
      have q1 : w3.cell? ⟨a, 1, none⟩ = some (.int .i64 d) := cell_of_row _ _ 1 _ _ _ HX3.out.row
      have q2 : w3.cell? ⟨a, 2, none⟩ = some (.int .i64 i) := cell_of_row _ _ 2 _ _ _ HX3.out.row
      have q3 : w3.cell? ⟨a, 3, none⟩ = some (.int .i64 m) := cell_of_row _ _ 3 _ _ _ HX3.out.row
      by_cases h0 : r = 0
      · have hT := HZ.out h0
        subst h0
        have hok : XrS.ok ⟨⟨#[]⟩, false, 0, m, 0, 0, d, i, t⟩ := Or.inr ⟨hT.1, by obtain ⟨_, n, h1, rfl, _⟩ := hT; exact ⟨Int.natCast_nonneg _, by show (n : Int) < 288; omega⟩, hT.2.choose_spec.2.2⟩
        clear hT HZ
        obtain ⟨S, hS, _⟩ := HX3.out.raw
        have f5 := hS.xx.free 5
        obtain ⟨v5, q5⟩ : ∃ v, w3.cell? ⟨x, 5, none⟩ = some v := ⟨_, cell_of_row _ _ 5 _ _ _ hS.xx.row⟩
        have HY := Lib.hid (hS.set (T := { S with lt := m }) 5 (.int .i64 m) rfl)
        clear hS
        go_upto_region 12 with fail
        clear HX3 q1 q2 q3 q5 f5
        generalize w3.setCell ⟨x, 5, none⟩ (.int .i64 m) = w4 at *
        generalize hS1 : ({ S with lt := m } : XrS) = S1 at *
        have e5 : S1.lt = m := by rw [← hS1]
        clear hS1 h1 h2
        have q1 : w4.cell? ⟨a, 1, none⟩ = some (.int .i64 d) := cell_of_row _ _ 1 _ _ _ HY.out.row
        have q2 : w4.cell? ⟨a, 2, none⟩ = some (.int .i64 i) := cell_of_row _ _ 2 _ _ _ HY.out.row
        have q8 : w4.cell? ⟨x, 8, none⟩ = some (.int .i64 S1.a0) := cell_of_row _ _ 8 _ _ _ HY.out.xx.row
        have q9 : w4.cell? ⟨x, 9, none⟩ = some (.int .i64 S1.a1) := cell_of_row _ _ 9 _ _ _ HY.out.xx.row
        have f8 := HY.out.xx.free 8
        have f9 := HY.out.xx.free 9
        have HY2 := Lib.hid ((HY.out.set (T := { S1 with a0 := d }) 8 (.int .i64 d) rfl).set (T := { S1 with a0 := d, a1 := i }) 9 (.int .i64 i) rfl)
        go_upto_region 13 with fail
        clear q1 q2 q8 q9 f8 f9 HY
        generalize (w4.setCell ⟨x, 8, none⟩ (.int .i64 d)).setCell ⟨x, 9, none⟩ (.int .i64 i) = w5 at *
        have e5 : ({ S1 with a0 := d, a1 := i } : XrS).lt = m := e5
        have e8 : ({ S1 with a0 := d, a1 := i } : XrS).a0 = d := rfl
        have e9 : ({ S1 with a0 := d, a1 := i } : XrS).a1 = i := rfl
        generalize ({ S1 with a0 := d, a1 := i } : XrS) = S2 at *
        have f10 := HY2.out.xx.free 10
        have q10 : w5.cell? ⟨x, 10, none⟩ = some (.string S2.s) := cell_of_row _ _ 10 _ _ _ HY2.out.xx.row
        have HX6 := Lib.hid ((HY2.out.set (T := { S2 with s := t }) 10 (.string t) rfl).at (by
          unfold XrS.ok at hok ⊢
          rw [show ({ S2 with s := t } : XrS).lt = S2.lt from rfl, show ({ S2 with s := t } : XrS).a0 = S2.a0 from rfl, show ({ S2 with s := t } : XrS).a1 = S2.a1 from rfl, e5, e8, e9]
          exact hok))
        clear e5 e8 e9 hok
        go_upto_region 14 with fail
        clear f10 q10 HY2
        generalize w5.setCell ⟨x, 10, none⟩ (.string t) = w6 at *
        have q1 : w6.cell? ⟨a, 1, none⟩ = some (.int .i64 d) := cell_of_row _ _ 1 _ _ _ HX6.out.row
        have q2 : w6.cell? ⟨a, 2, none⟩ = some (.int .i64 i) := cell_of_row _ _ 2 _ _ _ HX6.out.row
        have q3 : w6.cell? ⟨a, 3, none⟩ = some (.int .i64 m) := cell_of_row _ _ 3 _ _ _ HX6.out.row
        go_wp2_with fail
        refine (gLater m d i t HX6.out.bo.rg).mono ?_
        rintro e w7 ⟨z, rfl, r7, k7⟩
        have HX7 := Lib.hid (HX6.out.rig r7 k7)
        clear r7 k7
        go_wp2_with fail
        go_ret
        exact HX7.out.fin _
      · have hb : (r == 0) = false := by simpa using h0
        clear h0 HZ
        go_wp2_with fail
        refine (gLater m d i t HX3.out.bo.rg).mono ?_
        rintro e w4 ⟨z, rfl, r4, k4⟩
        have HX4 := Lib.hid (HX3.out.rig r4 k4)
        clear r4 k4
        go_wp2_with fail
        go_ret
        exact HX4.out.fin _
    · go_enter Try.func37, Try.ntmps37
      go_upto_region 1 with fail
      rw [HW.out, HA.out]
      clear HW HA
      go_wp2_with (refine wpList_load_row rfl _ _ rfl a rfl 34 _ (0, 0) _ HX.out.row Try.underlying34 rfl act_info ?_)
      refine (PT.out _).mono ?_
      rintro e w2 ⟨rfl, b2⟩
      have HX2 := Lib.hid (HX.out.below b2)
      clear b2 HX PT q0 q3
      have q1 : w2.cell? ⟨a, 1, none⟩ = some (.int .i64 d) := cell_of_row _ _ 1 _ _ _ HX2.out.row
      have q2 : w2.cell? ⟨a, 2, none⟩ = some (.int .i64 i) := cell_of_row _ _ 2 _ _ _ HX2.out.row
      have q3 : w2.cell? ⟨a, 3, none⟩ = some (.int .i64 m) := cell_of_row _ _ 3 _ _ _ HX2.out.row
      go_wp2_with fail
      refine (gLater m d i t HX2.out.bo.rg).mono ?_
      rintro e w4 ⟨z, rfl, r4, k4⟩
      have HX4 := Lib.hid (HX2.out.rig r4 k4)
      clear r4 k4
      go_wp2_with fail
      go_ret
      exact HX4.out.fin _
  · go_enter Try.func37, Try.ntmps37
    go_upto_region 1 with fail
    rw [HW.out, HA.out]
    clear HW HA
    go_wp2_with (refine wpList_load_row rfl _ _ rfl a rfl 34 _ (0, 0) _ HX.out.row Try.underlying34 rfl act_info ?_)
    refine (PT.out _).mono ?_
    rintro e w2 ⟨rfl, b2⟩
    have HX2 := Lib.hid (HX.out.below b2)
    clear b2 HX PT q0 q3
    have q1 : w2.cell? ⟨a, 1, none⟩ = some (.int .i64 d) := cell_of_row _ _ 1 _ _ _ HX2.out.row
    have q2 : w2.cell? ⟨a, 2, none⟩ = some (.int .i64 i) := cell_of_row _ _ 2 _ _ _ HX2.out.row
    have q3 : w2.cell? ⟨a, 3, none⟩ = some (.int .i64 m) := cell_of_row _ _ 3 _ _ _ HX2.out.row
    go_wp2_with fail
    refine (gLater m d i t HX2.out.bo.rg).mono ?_
    rintro e w4 ⟨z, rfl, r4, k4⟩
    have HX4 := Lib.hid (HX2.out.rig r4 k4)
    clear r4 k4
    go_wp2_with fail
    go_ret
    exact HX4.out.fin _
end Go.Proofs.Ytjmginkkjkbpoaa
