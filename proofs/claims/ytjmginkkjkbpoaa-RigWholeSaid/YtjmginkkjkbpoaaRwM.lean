/- Both rigs: the law's reads. -/
import Derived.Test.YtjmginkkjkbpoaaRwL
namespace Go.Proofs.Ytjmginkkjkbpoaa
open Go.RowKit Go.Deep
set_option linter.unusedVariables false
set_option linter.unusedSimpArgs false
theorem rbE_zero {d i : Int} (h : rbE d i = 0) : (d = 0 ∨ d = 1) ∧ ∃ n : Nat, n < 288 ∧ i = (n : Int) := by
  unfold rbE at h
  split at h
  · rename_i h1
    split at h
    · exact absurd h (by decide)
    · exact ⟨h1, i.toNat, by omega, by omega⟩
  · exact absurd h (by decide)
theorem Ax.drewN {B C cs x g0 g1 a : Nat} {w0 w : World} {p : RgP} {last : ByteArray} {A : Array Value} (h : Ax B C w0 w p last cs x g0 g1 a A) (n : Nat) : Ax B C w0 (w.drewN n) p last cs x g0 g1 a A :=
  h.below ⟨(Below.refl w.heap.size w).os, (Below.refl w.heap.size w).tape, (Below.refl w.heap.size w).output, (Below.refl w.heap.size w).size, (Below.refl w.heap.size w).block⟩
theorem two_bool (b : Bool) : b = true ∨ b = false := by cases b <;> simp
/-- What a device tells at n. -/
theorem dv_now {w : World} {B g n : Nat} (h : DAt w B g) (hn : n < 288) : ∃ (nb c : Nat) (u : ByteArray), w.cell? ⟨g, 0, none⟩ = some (.slice (some ⟨nb, 0, none⟩) 288 c) ∧ w.cell? ⟨nb, n, none⟩ = some (.string u) := by
  obtain ⟨_, v, s, b, hg, ⟨nb, c, T, rfl, _, _, _, _, h2⟩, _, _⟩ := h
  exact ⟨nb, c, _, (dv_cells hg).1, (h2 n hn).1⟩
set_option maxRecDepth 100000 in
set_option maxHeartbeats 8000000 in
theorem reads_any (B C : Nat) (p : RgP) (last : ByteArray) (cs x g0 g1 : Nat) (k d i m : Int) (s : ByteArray) (raw : Bool) (x0 x1 x2 y0 y1 y2 : Value) (w : World) (h : Bo B C w p last cs x g0 g1) (hc : cs ≤ 1000) : Calls Try.prog 39 #[.pointer (some ⟨p.R, 0, none⟩), .pointer (some ⟨x, 0, none⟩), .agg #[.int .i64 k, .int .i64 d, .int .i64 i, .int .i64 m, .string s, .bool raw, x0, x1, x2, y0, y1, y2]] w fun e w' => DoP B C p last (cs + 1) x g0 g1 w e w' := by
  obtain ⟨w1, a, HW, HA, HX⟩ := ax_start h #[.int .i64 k, .int .i64 d, .int .i64 i, .int .i64 m, .string s, .bool raw, x0, x1, x2, y0, y1, y2]
  clear h
  have PM := Lib.hid (fun w => may12_any k d i m s raw x0 x1 x2 y0 y1 y2 w)
  have q1 : w1.cell? ⟨a, 1, none⟩ = some (.int .i64 d) := cell_of_row _ _ 1 _ _ _ HX.out.row
  have q2 : w1.cell? ⟨a, 2, none⟩ = some (.int .i64 i) := cell_of_row _ _ 2 _ _ _ HX.out.row
  go_enter Try.func39, Try.ntmps39
  go_upto_region 1 with fail
  rw [HW.out, HA.out]
  clear HW HA
  go_wp2_with fail
  refine (gRead d i HX.out.bo.rg HX.out.bo.bw hc).mono ?_
  rintro e w2 ⟨t, z, rfl, r2, k2⟩
  have HX2 := Lib.hid (HX.out.rig r2 k2)
  clear r2 k2 HX q1 q2
  go_wp2_with (refine wpList_load_row rfl _ _ rfl a rfl 34 _ (0, 0) _ HX2.out.row Try.underlying34 rfl act_info ?_)
  refine (PM.out _).mono ?_
  rintro e w3 ⟨rfl, b3⟩
  have HX3 := Lib.hid (HX2.out.below b3)
  clear b3 HX2 PM
  have HZ : Hid (∀ r, rbE d i = r → r = 0 → (d = 0 ∨ d = 1) ∧ ∃ n : Nat, n < 288 ∧ i = (n : Int)) := Lib.hid (fun r h1 h2 => rbE_zero (h1.trans h2))
  obtain ⟨r, hr⟩ : ∃ r, rbE d i = r := ⟨_, rfl⟩
  rw [hr]
  have HZ := Lib.hid (HZ.out r hr)
  clear hr
  by_cases h0 : r = 0
  · obtain ⟨hd, n, hn, rfl⟩ := HZ.out h0
    subst h0
    clear HZ
    go_wp2_with fail
    refine (HX3.out.step).mono ?_
    rintro e w4 ⟨z4, rfl, x4⟩
    have HX4 := Lib.hid x4
    clear x4 HX3
    by_cases hz : z4 = 0
    · subst hz
      by_cases h1 : z = 0
      · subst h1
        rcases hd with rfl | rfl
        · have d4 := HX4.out.dat
          obtain ⟨nb, c, u, c1, c2⟩ := dv_now d4.1 hn
          have q0 := d4.2.2.1
          have q1 : w4.cell? ⟨a, 1, none⟩ = some (.int .i64 0) := cell_of_row _ _ 1 _ _ _ HX4.out.row
          have q2 : w4.cell? ⟨a, 2, none⟩ = some (.int .i64 (n : Int)) := cell_of_row _ _ 2 _ _ _ HX4.out.row
          have hX := Lib.hid HX4.out.drewN
          clear d4 HX4
          go_upto_region 8 with fail
          go_quiet (fail)
          go_wp2_with fail
          go_ret
          exact (hX.out _).fin _
        · have d4 := HX4.out.dat
          obtain ⟨nb, c, u, c1, c2⟩ := dv_now d4.2.1 hn
          have q0 := d4.2.2.2
          have q1 : w4.cell? ⟨a, 1, none⟩ = some (.int .i64 1) := cell_of_row _ _ 1 _ _ _ HX4.out.row
          have q2 : w4.cell? ⟨a, 2, none⟩ = some (.int .i64 (n : Int)) := cell_of_row _ _ 2 _ _ _ HX4.out.row
          have hX := Lib.hid HX4.out.drewN
          clear d4 HX4
          go_upto_region 8 with fail
          go_quiet (fail)
          go_wp2_with fail
          go_ret
          exact (hX.out _).fin _
      · have hb : (z == 0) = false := by simpa using h1
        clear hd h1
        have hX := Lib.hid HX4.out.drewN
        clear HX4
        go_upto_region 8 with fail
        go_quiet (fail)
        go_wp2_with fail
        go_ret
        exact (hX.out _).fin _
    · have hb : (z4 != 0) = true := by simpa using hz
      clear hz hd
      go_wp2_with fail
      all_goals
        go_ret
        exact HX4.out.fin _
  · have hb : (r != 0) = true := by simpa using h0
    clear h0 HZ
    go_wp2_with fail
    all_goals
      go_ret
      exact HX3.out.fin _
set_option maxRecDepth 100000 in
set_option maxHeartbeats 8000000 in
theorem regs_any (B C : Nat) (p : RgP) (last : ByteArray) (cs x g0 g1 : Nat) (d i m : Int) (s : ByteArray) (raw : Bool) (x0 x1 x2 y0 y1 y2 : Value) (w : World) (h : Bo B C w p last cs x g0 g1) (hc : cs ≤ 1000) : Calls Try.prog 34 #[.pointer (some ⟨p.R, 0, none⟩), .pointer (some ⟨x, 0, none⟩), .agg #[.int .i64 6, .int .i64 d, .int .i64 i, .int .i64 m, .string s, .bool raw, x0, x1, x2, y0, y1, y2]] w fun e w' => DoP B C p last (cs + 1) x g0 g1 w e w' := by
  obtain ⟨w1, a, HW, HA, HX⟩ := ax_start h #[.int .i64 6, .int .i64 d, .int .i64 i, .int .i64 m, .string s, .bool raw, x0, x1, x2, y0, y1, y2]
  clear h
  have q0 : w1.cell? ⟨a, 0, none⟩ = some (.int .i64 6) := cell_of_row _ _ 0 _ _ _ HX.out.row
  go_enter Try.func34, Try.ntmps34
  go_upto_region 1 with fail
  rw [HW.out, HA.out]
  clear HW HA
  go_wp2_with fail
  refine (gReg HX.out.bo.rg HX.out.bo.bw hc).mono ?_
  rintro e w2 ⟨t, z, rfl, _, r2, k2⟩
  have HX2 := Lib.hid (HX.out.rig r2 k2)
  clear r2 k2 HX q0
  go_wp2_with fail
  refine (HX2.out.step).mono ?_
  rintro e w4 ⟨z4, rfl, x4⟩
  have HX4 := Lib.hid x4
  clear x4 HX2
  by_cases hz : z4 = 0
  · subst hz
    obtain ⟨S, hS⟩ := HX4.out.bo.xx
    have q2 := hS.cells.2.2.1
    clear hS
    generalize S.rg = u at *
    go_wp2_with fail
    all_goals
      go_ret
      exact HX4.out.fin _
  · have hb : (z4 != 0) = true := by simpa using hz
    clear hz
    go_wp2_with fail
    all_goals
      go_ret
      exact HX4.out.fin _
end Go.Proofs.Ytjmginkkjkbpoaa
