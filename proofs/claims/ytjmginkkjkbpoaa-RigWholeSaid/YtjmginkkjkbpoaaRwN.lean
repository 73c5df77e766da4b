/- Both rigs: the law's comes. -/
import Derived.Test.YtjmginkkjkbpoaaRwM
namespace Go.Proofs.Ytjmginkkjkbpoaa
open Go.RowKit Go.Deep
set_option linter.unusedVariables false
set_option linter.unusedSimpArgs false
/-- A rig of the reference amid its stores. -/
structure XRw (w : World) (B x g0 g1 : Nat) (S : XrS) : Prop where
  row : w.heap[x]? = some (.cells (xrA g0 g1 S) 64 (0, 0))
  bx : B ≤ x
  d0 : DAt w B g0
  d1 : DAt w B g1
  ne : g0 ≠ g1
theorem XAt.raw {w : World} {B x g0 g1 : Nat} {S : XrS} (h : XAt w B x g0 g1 S) : XRw w B x g0 g1 S := ⟨h.row, h.bx, h.d0, h.d1, h.ne⟩
theorem XRw.at {w : World} {B x g0 g1 : Nat} {S : XrS} (h : XRw w B x g0 g1 S) (ok : S.ok) : XAt w B x g0 g1 S := ⟨h.row, h.bx, h.d0, h.d1, h.ne, ok⟩
theorem XRw.free {w : World} {B x g0 g1 : Nat} {S : XrS} (h : XRw w B x g0 g1 S) (j : Nat) : w.frozen? ⟨x, j, none⟩ = false := frozen_of_row _ _ j _ _ h.row
theorem XRw.set {w : World} {B x g0 g1 : Nat} {S T : XrS} (h : XRw w B x g0 g1 S) (j : Nat) (v : Value) (e : (xrA g0 g1 S).setIfInBounds j v = xrA g0 g1 T) : XRw (w.setCell ⟨x, j, none⟩ v) B x g0 g1 T := by
  have hr := h.row
  have hx : ∀ k, k ≠ x → (w.setCell ⟨x, j, none⟩ v).heap[k]? = w.heap[k]? := fun k hk => Below.heap_setCell w ⟨x, j, none⟩ v k hk
  have hd : ∀ g, DAt w B g → DAt (w.setCell ⟨x, j, none⟩ v) B g := fun g hg => by
    have hgx : g ≠ x := fun e => by
      obtain ⟨_, n, s, b, hg0, _⟩ := hg
      rw [e, hr] at hg0
      injection hg0 with hg0
      injection hg0 with _ q
      exact absurd q (by decide)
    exact hg.of_block (hx g hgx) fun k _ _ _ h2 => hx k fun e => h2 (xrA g0 g1 S) (by rw [e]; exact hr)
  exact ⟨by rw [heap_set hr, e], h.bx, hd _ h.d0, hd _ h.d1, h.ne⟩
/-- The act's row and both rigs, amid a store. -/
structure Ay (B C : Nat) (w0 w : World) (p : RgP) (last : ByteArray) (cs x g0 g1 a : Nat) (A : Array Value) (S : XrS) : Prop where
  rg : RgOK B w p last cs
  xx : XRw w C x g0 g1 S
  hc : p.g1 < C
  hw : C ≤ w.heap.size
  hb : B ≤ C
  row : w.heap[a]? = some (.cells A 34 (0, 0))
  ca : C ≤ a
  na : a ∉ xrl x g0 g1
  lo : Below B w0 w
section
variable {B C cs ds x g0 g1 a : Nat} {w0 w w' : World} {p : RgP} {last last' : ByteArray} {A : Array Value} {S T : XrS}
theorem Ax.raw (h : Ax B C w0 w p last cs x g0 g1 a A) : ∃ S, Ay B C w0 w p last cs x g0 g1 a A S ∧ S.ok := by
  obtain ⟨S, hX⟩ := h.bo.xx
  exact ⟨S, ⟨h.bo.rg, hX.raw, h.bo.hc, h.bo.hw, h.bo.hb, h.row, h.ca, h.na, h.lo⟩, hX.ok⟩
theorem Ay.at (h : Ay B C w0 w p last cs x g0 g1 a A S) (ok : S.ok) : Ax B C w0 w p last cs x g0 g1 a A := ⟨⟨h.rg, ⟨S, h.xx.at ok⟩, h.hc, h.hw, h.hb⟩, h.row, h.ca, h.na, h.lo⟩
theorem Ay.set (h : Ay B C w0 w p last cs x g0 g1 a A S) (j : Nat) (v : Value) (e : (xrA g0 g1 S).setIfInBounds j v = xrA g0 g1 T) : Ay B C w0 (w.setCell ⟨x, j, none⟩ v) p last cs x g0 g1 a A T := by
  have hB : Below C w (w.setCell ⟨x, j, none⟩ v) := (Below.refl _ _).setCell (p := ⟨x, j, none⟩) h.xx.bx _
  have hax : a ≠ x := fun e => h.na (by rw [e]; simp [xrl])
  exact ⟨h.rg.ref hB h.hc h.hw, h.xx.set j v e, h.hc, Nat.le_trans h.hw hB.size, h.hb, (Below.heap_setCell w ⟨x, j, none⟩ v a hax).trans h.row, h.ca, h.na, h.lo.trans (hB.mono h.hb)⟩
end
set_option maxRecDepth 100000 in
set_option maxHeartbeats 8000000 in
theorem comes10_any (B C : Nat) (p : RgP) (last : ByteArray) (cs x g0 g1 : Nat) (d i m : Int) (s : ByteArray) (raw : Bool) (x0 x1 x2 y0 y1 y2 : Value) (w : World) (h : Bo B C w p last cs x g0 g1) : Calls Try.prog 37 #[.pointer (some ⟨p.R, 0, none⟩), .pointer (some ⟨x, 0, none⟩), .agg #[.int .i64 10, .int .i64 d, .int .i64 i, .int .i64 m, .string s, .bool raw, x0, x1, x2, y0, y1, y2]] w fun e w' => DoP B C p last (cs + 1) x g0 g1 w e w' := by
  obtain ⟨w1, a, HW, HA, HX⟩ := ax_start h #[.int .i64 10, .int .i64 d, .int .i64 i, .int .i64 m, .string s, .bool raw, x0, x1, x2, y0, y1, y2]
  clear h
  have q0 : w1.cell? ⟨a, 0, none⟩ = some (.int .i64 10) := cell_of_row _ _ 0 _ _ _ HX.out.row
  have q3 : w1.cell? ⟨a, 3, none⟩ = some (.int .i64 m) := cell_of_row _ _ 3 _ _ _ HX.out.row
  by_cases h1 : 1 ≤ m
  · by_cases h2 : m ≤ 1099511627776
    · obtain ⟨S, hS, hok⟩ := HX.out.raw
      have f6 := hS.xx.free 6
      have HX2 : Hid (Ax B C w (w1.setCell ⟨x, 6, none⟩ (.int .i64 m)) p last cs x g0 g1 a #[.int .i64 10, .int .i64 d, .int .i64 i, .int .i64 m, .string s, .bool raw, x0, x1, x2, y0, y1, y2]) := Lib.hid ((hS.set (T := { S with ar := m }) 6 (.int .i64 m) rfl).at hok)
      have q6 : ∃ v, w1.cell? ⟨x, 6, none⟩ = some v := ⟨_, cell_of_row _ _ 6 _ _ _ hS.xx.row⟩
      obtain ⟨v, q6⟩ := q6
      clear hS hok
      go_enter Try.func37, Try.ntmps37
      go_upto_region 1 with fail
      rw [HW.out, HA.out]
      clear HW HA
      go_upto_region 18 with fail
      generalize w1.setCell ⟨x, 6, none⟩ (.int .i64 m) = w2 at *
      clear q0 q3 q6 f6
      have q3 : w2.cell? ⟨a, 3, none⟩ = some (.int .i64 m) := cell_of_row _ _ 3 _ _ _ HX2.out.row
      go_wp2_with fail
      refine (gArm m HX2.out.bo.rg).mono ?_
      rintro e w3 ⟨z, rfl, r3, k3⟩
      have HX3 := Lib.hid (HX2.out.rig r3 k3)
      clear r3 k3
      go_wp2_with fail
      go_ret
      exact HX3.out.fin _
    · go_enter Try.func37, Try.ntmps37
      go_upto_region 1 with fail
      rw [HW.out, HA.out]
      clear HW HA
      go_wp2_with fail
      refine (gArm m HX.out.bo.rg).mono ?_
      rintro e w3 ⟨z, rfl, r3, k3⟩
      have HX3 := Lib.hid (HX.out.rig r3 k3)
      clear r3 k3
      go_wp2_with fail
      go_ret
      exact HX3.out.fin _
  · go_enter Try.func37, Try.ntmps37
    go_upto_region 1 with fail
    rw [HW.out, HA.out]
    clear HW HA
    go_wp2_with fail
    refine (gArm m HX.out.bo.rg).mono ?_
    rintro e w3 ⟨z, rfl, r3, k3⟩
    have HX3 := Lib.hid (HX.out.rig r3 k3)
    clear r3 k3
    go_wp2_with fail
    go_ret
    exact HX3.out.fin _
set_option maxRecDepth 100000 in
set_option maxHeartbeats 8000000 in
theorem comes11_any (B C : Nat) (p : RgP) (last : ByteArray) (cs x g0 g1 : Nat) (d i m : Int) (s : ByteArray) (raw : Bool) (x0 x1 x2 y0 y1 y2 : Value) (w : World) (h : Bo B C w p last cs x g0 g1) : Calls Try.prog 37 #[.pointer (some ⟨p.R, 0, none⟩), .pointer (some ⟨x, 0, none⟩), .agg #[.int .i64 11, .int .i64 d, .int .i64 i, .int .i64 m, .string s, .bool raw, x0, x1, x2, y0, y1, y2]] w fun e w' => DoP B C p last (cs + 1) x g0 g1 w e w' := by
  obtain ⟨w1, a, HW, HA, HX⟩ := ax_start h #[.int .i64 11, .int .i64 d, .int .i64 i, .int .i64 m, .string s, .bool raw, x0, x1, x2, y0, y1, y2]
  clear h
  have q0 : w1.cell? ⟨a, 0, none⟩ = some (.int .i64 11) := cell_of_row _ _ 0 _ _ _ HX.out.row
  have q3 : w1.cell? ⟨a, 3, none⟩ = some (.int .i64 m) := cell_of_row _ _ 3 _ _ _ HX.out.row
  by_cases h1 : 1 ≤ m
  · by_cases h2 : m ≤ 1099511627776
    · obtain ⟨S, hS, hok⟩ := HX.out.raw
      have f6 := hS.xx.free 7
      have HX2 : Hid (Ax B C w (w1.setCell ⟨x, 7, none⟩ (.int .i64 m)) p last cs x g0 g1 a #[.int .i64 11, .int .i64 d, .int .i64 i, .int .i64 m, .string s, .bool raw, x0, x1, x2, y0, y1, y2]) := Lib.hid ((hS.set (T := { S with fa := m }) 7 (.int .i64 m) rfl).at hok)
      have q6 : ∃ v, w1.cell? ⟨x, 7, none⟩ = some v := ⟨_, cell_of_row _ _ 7 _ _ _ hS.xx.row⟩
      obtain ⟨v, q6⟩ := q6
      clear hS hok
      go_enter Try.func37, Try.ntmps37
      go_upto_region 1 with fail
      rw [HW.out, HA.out]
      clear HW HA
      go_upto_region 21 with fail
      generalize w1.setCell ⟨x, 7, none⟩ (.int .i64 m) = w2 at *
      clear q0 q3 q6 f6
      have q3 : w2.cell? ⟨a, 3, none⟩ = some (.int .i64 m) := cell_of_row _ _ 3 _ _ _ HX2.out.row
      go_wp2_with fail
      refine (gFault m HX2.out.bo.rg).mono ?_
      rintro e w3 ⟨z, rfl, r3, k3⟩
      have HX3 := Lib.hid (HX2.out.rig r3 k3)
      clear r3 k3
      go_wp2_with fail
      go_ret
      exact HX3.out.fin _
    · go_enter Try.func37, Try.ntmps37
      go_upto_region 1 with fail
      rw [HW.out, HA.out]
      clear HW HA
      go_wp2_with fail
      refine (gFault m HX.out.bo.rg).mono ?_
      rintro e w3 ⟨z, rfl, r3, k3⟩
      have HX3 := Lib.hid (HX.out.rig r3 k3)
      clear r3 k3
      go_wp2_with fail
      go_ret
      exact HX3.out.fin _
  · go_enter Try.func37, Try.ntmps37
    go_upto_region 1 with fail
    rw [HW.out, HA.out]
    clear HW HA
    go_wp2_with fail
    refine (gFault m HX.out.bo.rg).mono ?_
    rintro e w3 ⟨z, rfl, r3, k3⟩
    have HX3 := Lib.hid (HX.out.rig r3 k3)
    clear r3 k3
    go_wp2_with fail
    go_ret
    exact HX3.out.fin _
end Go.Proofs.Ytjmginkkjkbpoaa
