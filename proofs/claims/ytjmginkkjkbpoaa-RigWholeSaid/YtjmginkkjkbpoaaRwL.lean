/- Both rigs and the act's row; the law's writes. -/
import Derived.Test.YtjmginkkjkbpoaaRwK
namespace Go.Proofs.Ytjmginkkjkbpoaa
open Go.RowKit Go.Deep
set_option linter.unusedVariables false
set_option linter.unusedSimpArgs false
/-- Both rigs, and the act's own row at block a. -/
structure Ax (B C : Nat) (w0 w : World) (p : RgP) (last : ByteArray) (cs x g0 g1 a : Nat) (A : Array Value) : Prop where
  bo : Bo B C w p last cs x g0 g1
  row : w.heap[a]? = some (.cells A 34 (0, 0))
  ca : C ≤ a
  na : a ∉ xrl x g0 g1
  lo : Below B w0 w
theorem ax_start {B C : Nat} {w : World} {p : RgP} {last : ByteArray} {cs x g0 g1 : Nat} (h : Bo B C w p last cs x g0 g1) (A : Array Value) : ∃ w1 a, Hid (w.alloc (.cells A 34) = w1) ∧ Hid (w.heap.size = a) ∧ Hid (Ax B C w w1 p last cs x g0 g1 a A) :=
  ⟨_, _, Lib.hid rfl, Lib.hid rfl, Lib.hid ⟨h.below ((Below.refl _ _).alloc (Nat.le_refl _) _), heap_alloc_new _ _, h.hw, h.new (Nat.le_refl _), (Below.refl _ _).alloc h.bw _⟩⟩
section
variable {B C cs ds x g0 g1 a : Nat} {w0 w w' : World} {p : RgP} {last last' : ByteArray} {A : Array Value}
theorem Ax.rig (h : Ax B C w0 w p last cs x g0 g1 a A) (r : RgOK B w' p last' ds) (k : Kq B p.l w w') : Ax B C w0 w' p last' ds x g0 g1 a A :=
  ⟨h.bo.rig r k, h.bo.rigRow k h.ca h.row, h.ca, h.na, h.lo.trans k.below⟩
theorem Ax.ref (h : Ax B C w0 w p last cs x g0 g1 a A) (m : XMid C x g0 g1 w w') : Ax B C w0 w' p last cs x g0 g1 a A :=
  ⟨h.bo.ref m, Bo.refRow m h.row h.na, h.ca, h.na, h.lo.trans (m.bel h.bo.hb)⟩
theorem Ax.lt (h : Ax B C w0 w p last cs x g0 g1 a A) : a < w.heap.size := (Array.getElem?_eq_some_iff.1 h.row).1
theorem Ax.below (h : Ax B C w0 w p last cs x g0 g1 a A) (b : Below w.heap.size w w') : Ax B C w0 w' p last cs x g0 g1 a A :=
  ⟨h.bo.below b, (b.block _ h.lt).trans h.row, h.ca, h.na, h.lo.trans (b.mono h.bo.bw)⟩
theorem Ax.drew (h : Ax B C w0 w p last cs x g0 g1 a A) : Ax B C w0 w.drew p last cs x g0 g1 a A := h.below (Below.refl _ _).drew
theorem Ax.more (h : Ax B C w0 w p last cs x g0 g1 a A) (hc : cs ≤ ds) : Ax B C w0 w p last ds x g0 g1 a A := ⟨h.bo.more hc, h.row, h.ca, h.na, h.lo⟩
theorem Ax.fin (h : Ax B C w0 w p last cs x g0 g1 a A) (b : Bool) : DoP B C p last cs x g0 g1 w0 (.returned (.bool b)) w := ⟨b, rfl, h.bo, h.lo⟩
theorem Ax.step (h : Ax B C w0 w p last cs x g0 g1 a A) : Calls Try.prog 32 #[.pointer (some ⟨x, 0, none⟩)] w fun e w' => ∃ z : Int, e = .returned (.int .i64 z) ∧ Ax B C w0 w' p last cs x g0 g1 a A := by
  obtain ⟨S, hX⟩ := h.bo.xx
  refine (xStep_any C x g0 g1 S w hX h.bo.hw).mono ?_
  intro e w' q
  obtain ⟨z, h1, m⟩ := XPost.mid q
  exact ⟨z, h1, h.ref m⟩
/-- The reference's device d, and where the rig holds it. -/
theorem Ax.dat (h : Ax B C w0 w p last cs x g0 g1 a A) : DAt w C g0 ∧ DAt w C g1 ∧ w.cell? ⟨x, 0, none⟩ = some (.pointer (some ⟨g0, 0, none⟩)) ∧ w.cell? ⟨x, 1, none⟩ = some (.pointer (some ⟨g1, 0, none⟩)) := by
  obtain ⟨S, hX⟩ := h.bo.xx
  exact ⟨hX.d0, hX.d1, hX.cells.1, hX.cells.2.1⟩
theorem Ax.dev0 (h : Ax B C w0 w p last cs x g0 g1 a A) (d : DAt w' C g0) (k : Kq C [g0] w w') : Ax B C w0 w' p last cs x g0 g1 a A := by
  obtain ⟨S, hX⟩ := h.bo.xx
  exact h.ref ⟨S, hX.dev0 d k⟩
theorem Ax.dev1 (h : Ax B C w0 w p last cs x g0 g1 a A) (d : DAt w' C g1) (k : Kq C [g1] w w') : Ax B C w0 w' p last cs x g0 g1 a A := by
  obtain ⟨S, hX⟩ := h.bo.xx
  exact h.ref ⟨S, hX.dev1 d k⟩
theorem Ax.cw (h : Ax B C w0 w p last cs x g0 g1 a A) : C ≤ w.heap.size := h.bo.hw
end
theorem rtE_zero {d i : Int} {t : ByteArray} (h : rtE d i t = 0) : (d = 0 ∨ d = 1) ∧ ∃ n : Nat, n < 288 ∧ i = (n : Int) ∧ t.size = 64 := by
  unfold rtE txE at h
  rw [show (((288 : Nat) : Int)) = 288 from rfl] at h
  split at h
  · rename_i h1
    split at h
    · exact absurd h (by decide)
    · rename_i h2
      split at h
      · rename_i h3
        exact ⟨h1, i.toNat, by omega, by omega, h3⟩
      · exact absurd h (by decide)
  · exact absurd h (by decide)
set_option maxRecDepth 100000 in
set_option maxHeartbeats 8000000 in
theorem writes_any (B C : Nat) (p : RgP) (last : ByteArray) (cs x g0 g1 : Nat) (k d i m : Int) (s : ByteArray) (raw : Bool) (x0 x1 x2 y0 y1 y2 : Value) (w : World) (h : Bo B C w p last cs x g0 g1) (hs : s.size < 300) (hc : cs ≤ 1000) : Calls Try.prog 31 #[.pointer (some ⟨p.R, 0, none⟩), .pointer (some ⟨x, 0, none⟩), .agg #[.int .i64 k, .int .i64 d, .int .i64 i, .int .i64 m, .string s, .bool raw, x0, x1, x2, y0, y1, y2]] w fun e w' => DoP B C p last (cs + 1) x g0 g1 w e w' := by
  obtain ⟨w1, a, HW, HA, HX⟩ := ax_start h #[.int .i64 k, .int .i64 d, .int .i64 i, .int .i64 m, .string s, .bool raw, x0, x1, x2, y0, y1, y2]
  clear h
  have PT := Lib.hid (fun w => text12_any k d i m s raw x0 x1 x2 y0 y1 y2 64 w hs (by omega))
  have PB0 := Lib.hid (fun t w => block12_any k d i m s raw x0 x1 x2 y0 y1 y2 t w)
  rw [show ((64 : Nat) : Int) = 64 from rfl] at PT
  obtain ⟨t, ht⟩ : ∃ t, textB s raw 64 = t := ⟨_, rfl⟩
  rw [ht] at PT
  clear ht
  have PB := Lib.hid (PB0.out t)
  clear PB0
  go_enter Try.func31, Try.ntmps31
  go_upto_region 1 with fail
  rw [HW.out, HA.out]
  clear HW HA
  go_wp2_with (refine wpList_load_row rfl _ _ rfl a rfl 34 _ (0, 0) _ HX.out.row Try.underlying34 rfl act_info ?_)
  refine (PT.out _).mono ?_
  rintro e w2 ⟨rfl, b2⟩
  have HX2 := Lib.hid (HX.out.below b2)
  clear b2 HX PT
  have q1 : w2.cell? ⟨a, 1, none⟩ = some (.int .i64 d) := cell_of_row _ _ 1 _ _ _ HX2.out.row
  have q2 : w2.cell? ⟨a, 2, none⟩ = some (.int .i64 i) := cell_of_row _ _ 2 _ _ _ HX2.out.row
  go_wp2_with fail
  refine (gWrite d i t HX2.out.bo.rg HX2.out.bo.bw hc).mono ?_
  rintro e w3 ⟨z, rfl, r3, k3⟩
  have HX3 := Lib.hid (HX2.out.rig r3 k3)
  clear r3 k3 HX2 q1 q2
  go_wp2_with (refine wpList_load_row rfl _ _ rfl a rfl 34 _ (0, 0) _ HX3.out.row Try.underlying34 rfl act_info ?_)
  refine (PB.out _).mono ?_
  rintro e w4 ⟨rfl, b4⟩
  have HX4 := Lib.hid (HX3.out.below b4)
  clear b4 HX3 PB
  have HZ : Hid (∀ r, rtE d i t = r → r = 0 → (d = 0 ∨ d = 1) ∧ ∃ n : Nat, n < 288 ∧ i = (n : Int) ∧ t.size = 64) := Lib.hid (fun r h1 h2 => rtE_zero (h1.trans h2))
  obtain ⟨r, hr⟩ : ∃ r, rtE d i t = r := ⟨_, rfl⟩
  rw [hr]
  have HZ := Lib.hid (HZ.out r hr)
  clear hr
  by_cases h0 : r = 0
  · obtain ⟨hd, n, hn, rfl, h64⟩ := HZ.out h0
    subst h0
    clear HZ
    go_wp2_with fail
    refine (HX4.out.step).mono ?_
    rintro e w5 ⟨z5, rfl, x5⟩
    have HX5 := Lib.hid x5
    clear x5 HX4
    go_upto_if 31 with fail
    go_cut [] from 31 to 42 (fun wx => Hid (Ax B C w wx p last (cs + 1) x g0 g1 a #[.int .i64 k, .int .i64 d, .int .i64 (n : Int), .int .i64 m, .string s, .bool raw, x0, x1, x2, y0, y1, y2]))
    case first =>
      by_cases hz : z5 = 0
      · subst hz
        rcases hd with rfl | rfl
        · have HX6 := Lib.hid HX5.out.drew
          have q1 : w5.cell? ⟨a, 1, none⟩ = some (.int .i64 0) := cell_of_row _ _ 1 _ _ _ HX5.out.row
          have q2 : w5.cell? ⟨a, 2, none⟩ = some (.int .i64 (n : Int)) := cell_of_row _ _ 2 _ _ _ HX5.out.row
          have q3 := HX5.out.dat.2.2.1
          go_upto_region 8 with fail
          clear HX5
          refine wp_region_lin_all (S := (fun w' => w'.cell? ⟨a, 1, none⟩ = some (.int .i64 0) ∧ w'.cell? ⟨a, 2, none⟩ = some (.int .i64 (n : Int)) ∧ w'.cell? ⟨x, 0, none⟩ = some (.pointer (some ⟨g0, 0, none⟩)))) [(0, true), (1, true), (2, true), (3, true), (4, true), (5, true), (6, true), (7, true), (8, true), (9, true), (10, false)] (by kernel_rfl) (by kernel_rfl) rfl (by kernel_rfl) ?_ (fun hHeld => ?_)
          · (try dsimp only); exact ⟨q1, q2, q3⟩
          generalize World.drew w5 = w6 at hHeld HX6 ⊢
          refine wpL_calm (o := { dst := some 32, op := Go.Op.move (Go.Operand.tmp 1), type := 27, pos := "law.go:71", after := #[], guard := none }) (v := ?_) rfl (Or.inl ⟨by rfl, ?_⟩) ?_; rotate_left; (focus (intro w hSw; (try dsimp only at hSw); go_simp; (try (with_reducible rfl)); done)); try simp only [Act.put, List.setIfInBounds_toArray, List.set_cons_zero, List.set_cons_succ]
          refine wpL_calm (o := { dst := some 33, op := Go.Op.fieldAddr 34 (Go.Operand.tmp 5) 1, type := 0, pos := "law.go:71", after := #[], guard := none }) (v := ?_) rfl (Or.inl ⟨by rfl, ?_⟩) ?_; rotate_left; (focus (intro w hSw; (try dsimp only at hSw); go_simp; (try (with_reducible rfl)); done)); try simp only [Act.put, List.setIfInBounds_toArray, List.set_cons_zero, List.set_cons_succ]
          refine wpL_calm (o := { dst := some 34, op := Go.Op.load 3 (Go.Operand.tmp 33), type := 3, pos := "law.go:71", after := #[{ on := 1, ground := Go.Ground.data }], guard := none }) (v := ?_) rfl (Or.inl ⟨by rfl, ?_⟩) ?_; rotate_left; (focus (intro w hSw; (try dsimp only at hSw); go_simp; (try (with_reducible rfl)); done)); try simp only [Act.put, List.setIfInBounds_toArray, List.set_cons_zero, List.set_cons_succ]
          refine wpL_calm (o := { dst := some 35, op := Go.Op.nilCheck (Go.Operand.tmp 32), type := 0, pos := "law.go:71", after := #[{ on := 0, ground := Go.Ground.data }], guard := none }) (v := ?_) rfl (Or.inl ⟨by rfl, ?_⟩) ?_; rotate_left; (focus (intro w hSw; (try dsimp only at hSw); go_simp; (try (with_reducible rfl)); done)); try simp only [Act.put, List.setIfInBounds_toArray, List.set_cons_zero, List.set_cons_succ]
          refine wpL_calm (o := { dst := some 36, op := Go.Op.fieldAddr 64 (Go.Operand.tmp 35) 0, type := 0, pos := "law.go:71", after := #[{ on := 3, ground := Go.Ground.data }], guard := none }) (v := ?_) rfl (Or.inl ⟨by rfl, ?_⟩) ?_; rotate_left; (focus (intro w hSw; (try dsimp only at hSw); go_simp; (try (with_reducible rfl)); done)); try simp only [Act.put, List.setIfInBounds_toArray, List.set_cons_zero, List.set_cons_succ]
          refine wpL_calm (o := { dst := some 37, op := Go.Op.indexAddr 61 (Go.Operand.tmp 36) (Go.Operand.tmp 34), type := 0, pos := "law.go:71", after := #[{ on := 4, ground := Go.Ground.data }, { on := 2, ground := Go.Ground.data }], guard := none }) (v := ?_) rfl (Or.inl ⟨by rfl, ?_⟩) ?_; rotate_left; (focus (intro w hSw; (try dsimp only at hSw); go_simp; (try (with_reducible rfl)); done)); try simp only [Act.put, List.setIfInBounds_toArray, List.set_cons_zero, List.set_cons_succ]
          refine wpL_calm (o := { dst := some 38, op := Go.Op.load 59 (Go.Operand.tmp 37), type := 59, pos := "law.go:71", after := #[{ on := 5, ground := Go.Ground.data }], guard := none }) (v := ?_) rfl (Or.inl ⟨by rfl, ?_⟩) ?_; rotate_left; (focus (intro w hSw; (try dsimp only at hSw); go_simp; (try (with_reducible rfl)); done)); try simp only [Act.put, List.setIfInBounds_toArray, List.set_cons_zero, List.set_cons_succ]
          refine wpL_calm (o := { dst := some 39, op := Go.Op.fieldAddr 34 (Go.Operand.tmp 5) 2, type := 0, pos := "law.go:71", after := #[], guard := none }) (v := ?_) rfl (Or.inl ⟨by rfl, ?_⟩) ?_; rotate_left; (focus (intro w hSw; (try dsimp only at hSw); go_simp; (try (with_reducible rfl)); done)); try simp only [Act.put, List.setIfInBounds_toArray, List.set_cons_zero, List.set_cons_succ]
          refine wpL_calm (o := { dst := some 40, op := Go.Op.load 3 (Go.Operand.tmp 39), type := 3, pos := "law.go:71", after := #[{ on := 7, ground := Go.Ground.data }], guard := none }) (v := ?_) rfl (Or.inl ⟨by rfl, ?_⟩) ?_; rotate_left; (focus (intro w hSw; (try dsimp only at hSw); go_simp; (try (with_reducible rfl)); done)); try simp only [Act.put, List.setIfInBounds_toArray, List.set_cons_zero, List.set_cons_succ]
          refine wpL_calm (o := { dst := some 41, op := Go.Op.move (Go.Operand.tmp 7), type := 9, pos := "law.go:71", after := #[], guard := none }) (v := ?_) rfl (Or.inl ⟨by rfl, ?_⟩) ?_; rotate_left; (focus (intro w hSw; (try dsimp only at hSw); go_simp; (try (with_reducible rfl)); done)); try simp only [Act.put, List.setIfInBounds_toArray, List.set_cons_zero, List.set_cons_succ]
          refine wpL_loud1 (o := { dst := some 42, op := Go.Op.call { callee := Go.Callee.value (Go.Operand.func 55), args := #[Go.Operand.tmp 38, Go.Operand.tmp 40, Go.Operand.tmp 41], argTypes := #[59, 3, 9] }, type := 0, pos := "law.go:71", after := #[{ on := 6, ground := Go.Ground.data }, { on := 8, ground := Go.Ground.data }, { on := 9, ground := Go.Ground.data }], guard := none }) rfl (fun K hK => ?_)
          (go_simp; go_at_call 55; refine (dvWrite_any C g0 n t _ HX6.out.dat.1 hn h64 HX6.out.cw).mono ?_; rintro e w7 ⟨rfl, d7, k7⟩; have HX7 := Lib.hid (HX6.out.dev0 d7 k7); clear d7 k7)
          try go_wp2_with fail
          refine hK.out _ _ ?_ (fun hHeld => ?_)
          · (try dsimp only); exact ⟨cell_of_row _ _ 1 _ _ _ HX7.out.row, cell_of_row _ _ 2 _ _ _ HX7.out.row, HX7.out.dat.2.2.1⟩
          clear hK K
          try simp only [Act.put, List.setIfInBounds_toArray, List.set_cons_zero, List.set_cons_succ]
          refine wpL_nil ?_
          refine NoPanic.normal ?_
          clear hHeld
          all_goals
            go_wp2_with fail
            go_meet
            exact HX7
        · have HX6 := Lib.hid HX5.out.drew
          have q1 : w5.cell? ⟨a, 1, none⟩ = some (.int .i64 1) := cell_of_row _ _ 1 _ _ _ HX5.out.row
          have q2 : w5.cell? ⟨a, 2, none⟩ = some (.int .i64 (n : Int)) := cell_of_row _ _ 2 _ _ _ HX5.out.row
          have q3 := HX5.out.dat.2.2.2
          go_upto_region 8 with fail
          clear HX5
          refine wp_region_lin_all (S := (fun w' => w'.cell? ⟨a, 1, none⟩ = some (.int .i64 1) ∧ w'.cell? ⟨a, 2, none⟩ = some (.int .i64 (n : Int)) ∧ w'.cell? ⟨x, 1, none⟩ = some (.pointer (some ⟨g1, 0, none⟩)))) [(0, true), (1, true), (2, true), (3, true), (4, true), (5, true), (6, true), (7, true), (8, true), (9, true), (10, false)] (by kernel_rfl) (by kernel_rfl) rfl (by kernel_rfl) ?_ (fun hHeld => ?_)
          · (try dsimp only); exact ⟨q1, q2, q3⟩
          generalize World.drew w5 = w6 at hHeld HX6 ⊢
          refine wpL_calm (o := { dst := some 32, op := Go.Op.move (Go.Operand.tmp 1), type := 27, pos := "law.go:71", after := #[], guard := none }) (v := ?_) rfl (Or.inl ⟨by rfl, ?_⟩) ?_; rotate_left; (focus (intro w hSw; (try dsimp only at hSw); go_simp; (try (with_reducible rfl)); done)); try simp only [Act.put, List.setIfInBounds_toArray, List.set_cons_zero, List.set_cons_succ]
          refine wpL_calm (o := { dst := some 33, op := Go.Op.fieldAddr 34 (Go.Operand.tmp 5) 1, type := 0, pos := "law.go:71", after := #[], guard := none }) (v := ?_) rfl (Or.inl ⟨by rfl, ?_⟩) ?_; rotate_left; (focus (intro w hSw; (try dsimp only at hSw); go_simp; (try (with_reducible rfl)); done)); try simp only [Act.put, List.setIfInBounds_toArray, List.set_cons_zero, List.set_cons_succ]
          refine wpL_calm (o := { dst := some 34, op := Go.Op.load 3 (Go.Operand.tmp 33), type := 3, pos := "law.go:71", after := #[{ on := 1, ground := Go.Ground.data }], guard := none }) (v := ?_) rfl (Or.inl ⟨by rfl, ?_⟩) ?_; rotate_left; (focus (intro w hSw; (try dsimp only at hSw); go_simp; (try (with_reducible rfl)); done)); try simp only [Act.put, List.setIfInBounds_toArray, List.set_cons_zero, List.set_cons_succ]
          refine wpL_calm (o := { dst := some 35, op := Go.Op.nilCheck (Go.Operand.tmp 32), type := 0, pos := "law.go:71", after := #[{ on := 0, ground := Go.Ground.data }], guard := none }) (v := ?_) rfl (Or.inl ⟨by rfl, ?_⟩) ?_; rotate_left; (focus (intro w hSw; (try dsimp only at hSw); go_simp; (try (with_reducible rfl)); done)); try simp only [Act.put, List.setIfInBounds_toArray, List.set_cons_zero, List.set_cons_succ]
          refine wpL_calm (o := { dst := some 36, op := Go.Op.fieldAddr 64 (Go.Operand.tmp 35) 0, type := 0, pos := "law.go:71", after := #[{ on := 3, ground := Go.Ground.data }], guard := none }) (v := ?_) rfl (Or.inl ⟨by rfl, ?_⟩) ?_; rotate_left; (focus (intro w hSw; (try dsimp only at hSw); go_simp; (try (with_reducible rfl)); done)); try simp only [Act.put, List.setIfInBounds_toArray, List.set_cons_zero, List.set_cons_succ]
          refine wpL_calm (o := { dst := some 37, op := Go.Op.indexAddr 61 (Go.Operand.tmp 36) (Go.Operand.tmp 34), type := 0, pos := "law.go:71", after := #[{ on := 4, ground := Go.Ground.data }, { on := 2, ground := Go.Ground.data }], guard := none }) (v := ?_) rfl (Or.inl ⟨by rfl, ?_⟩) ?_; rotate_left; (focus (intro w hSw; (try dsimp only at hSw); go_simp; (try (with_reducible rfl)); done)); try simp only [Act.put, List.setIfInBounds_toArray, List.set_cons_zero, List.set_cons_succ]
          refine wpL_calm (o := { dst := some 38, op := Go.Op.load 59 (Go.Operand.tmp 37), type := 59, pos := "law.go:71", after := #[{ on := 5, ground := Go.Ground.data }], guard := none }) (v := ?_) rfl (Or.inl ⟨by rfl, ?_⟩) ?_; rotate_left; (focus (intro w hSw; (try dsimp only at hSw); go_simp; (try (with_reducible rfl)); done)); try simp only [Act.put, List.setIfInBounds_toArray, List.set_cons_zero, List.set_cons_succ]
          refine wpL_calm (o := { dst := some 39, op := Go.Op.fieldAddr 34 (Go.Operand.tmp 5) 2, type := 0, pos := "law.go:71", after := #[], guard := none }) (v := ?_) rfl (Or.inl ⟨by rfl, ?_⟩) ?_; rotate_left; (focus (intro w hSw; (try dsimp only at hSw); go_simp; (try (with_reducible rfl)); done)); try simp only [Act.put, List.setIfInBounds_toArray, List.set_cons_zero, List.set_cons_succ]
          refine wpL_calm (o := { dst := some 40, op := Go.Op.load 3 (Go.Operand.tmp 39), type := 3, pos := "law.go:71", after := #[{ on := 7, ground := Go.Ground.data }], guard := none }) (v := ?_) rfl (Or.inl ⟨by rfl, ?_⟩) ?_; rotate_left; (focus (intro w hSw; (try dsimp only at hSw); go_simp; (try (with_reducible rfl)); done)); try simp only [Act.put, List.setIfInBounds_toArray, List.set_cons_zero, List.set_cons_succ]
          refine wpL_calm (o := { dst := some 41, op := Go.Op.move (Go.Operand.tmp 7), type := 9, pos := "law.go:71", after := #[], guard := none }) (v := ?_) rfl (Or.inl ⟨by rfl, ?_⟩) ?_; rotate_left; (focus (intro w hSw; (try dsimp only at hSw); go_simp; (try (with_reducible rfl)); done)); try simp only [Act.put, List.setIfInBounds_toArray, List.set_cons_zero, List.set_cons_succ]
          refine wpL_loud1 (o := { dst := some 42, op := Go.Op.call { callee := Go.Callee.value (Go.Operand.func 55), args := #[Go.Operand.tmp 38, Go.Operand.tmp 40, Go.Operand.tmp 41], argTypes := #[59, 3, 9] }, type := 0, pos := "law.go:71", after := #[{ on := 6, ground := Go.Ground.data }, { on := 8, ground := Go.Ground.data }, { on := 9, ground := Go.Ground.data }], guard := none }) rfl (fun K hK => ?_)
          (go_simp; go_at_call 55; refine (dvWrite_any C g1 n t _ HX6.out.dat.2.1 hn h64 HX6.out.cw).mono ?_; rintro e w7 ⟨rfl, d7, k7⟩; have HX7 := Lib.hid (HX6.out.dev1 d7 k7); clear d7 k7)
          try go_wp2_with fail
          refine hK.out _ _ ?_ (fun hHeld => ?_)
          · (try dsimp only); exact ⟨cell_of_row _ _ 1 _ _ _ HX7.out.row, cell_of_row _ _ 2 _ _ _ HX7.out.row, HX7.out.dat.2.2.2⟩
          clear hK K
          try simp only [Act.put, List.setIfInBounds_toArray, List.set_cons_zero, List.set_cons_succ]
          refine wpL_nil ?_
          refine NoPanic.normal ?_
          clear hHeld
          all_goals
            go_wp2_with fail
            go_meet
            exact HX7
      · have hb : (z5 == 0) = false := by simpa using hz
        go_wp2_with fail
        go_meet
        exact HX5
    case rest =>
    clear HX5
    go_wp2_with fail
    go_ret
    exact hcut.out.fin _
  · have hb : (r != 0) = true := by simpa using h0
    clear h0 HZ
    go_wp2_with fail
    go_ret
    exact HX4.out.fin _
end Go.Proofs.Ytjmginkkjkbpoaa
