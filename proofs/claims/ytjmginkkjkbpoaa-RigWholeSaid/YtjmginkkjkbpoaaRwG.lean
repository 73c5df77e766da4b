/- The reference's rig: a crash. -/
import Derived.Test.YtjmginkkjkbpoaaRwF
import Derived.Test.YtjmginkkjkbpoaaRwD
namespace Go.Proofs.Ytjmginkkjkbpoaa
open Go.RowKit Go.Deep
set_option linter.unusedVariables false
set_option linter.unusedSimpArgs false
theorem LsAt.kq {w w' : World} {L : LsV} {B : Nat} {M : List Nat} (h : LsAt w L) (hL : ∀ kb ko, L.ao = some ⟨kb, ko, none⟩ → L.kl ≠ 0 → kb < B) (k : Kq B M w w') : LsAt w' L := h.below hL k.below
theorem LsV.cells_size (L : LsV) : L.cells.size = 3 := rfl
theorem ls_info : (Try.prog.info? 32).map (·.size) = some 3 := by kernel_rfl
theorem ls_range {w : World} {g : Nat} {L : LsV} (h : w.heap[g]? = some (.cells L.cells 32 (0, 0))) : w.rangeAt g 0 L.cells.toList := fun j u hu => by
  rw [Nat.zero_add, cell_of_row w g j _ _ _ h]
  simpa using hu
theorem two_ls (w : World) (X Y : LsV) : ∃ w1, Hid ((w.alloc (.cells X.cells 32)).alloc (.cells Y.cells 32) = w1) ∧ Hid (w1.heap[w.heap.size]? = some (.cells X.cells 32 (0, 0))) ∧ Hid (w1.heap[w.heap.size + 1]? = some (.cells Y.cells 32 (0, 0))) ∧ Hid (Below w.heap.size w w1) := by
  refine ⟨_, Lib.hid rfl, Lib.hid ?_, Lib.hid ?_, Lib.hid (((Below.refl _ _).alloc (Nat.le_refl _) _).alloc (by simp) _)⟩
  · exact heap_alloc2_old w _ _
  · have := heap_alloc_new (w.alloc (.cells X.cells 32)) (.cells Y.cells 32)
    simpa using this
attribute [local irreducible] LsV.cells
set_option maxRecDepth 100000 in
set_option maxHeartbeats 8000000 in
theorem xCrash_any (B x g0 g1 : Nat) (S : XrS) (X Y : LsV) (w : World) (hX : XAt w B x g0 g1 S) (hBw : B ≤ w.heap.size) (hx : LsAt w X) (hy : LsAt w Y) (oX : ∀ kb ko, X.ao = some ⟨kb, ko, none⟩ → X.kl ≠ 0 → kb < B) (oY : ∀ kb ko, Y.ao = some ⟨kb, ko, none⟩ → Y.kl ≠ 0 → kb < B) : Calls Try.prog 38 #[.pointer (some ⟨x, 0, none⟩), .agg X.cells, .agg Y.cells] w fun e w' => e = .returned (.tuple #[]) ∧ XMid B x g0 g1 w w' := by
  obtain ⟨w1, HW, HA, HB2, HB⟩ := two_ls w X Y
  have HX1 := Lib.hid (hX.below HB.out)
  have HK1 : Hid (Kq B (xrl x g0 g1) w w1) := Lib.hid (Kq.of_below HB.out hBw)
  have hx1 : LsAt w1 X := hx.below oX (HB.out.mono hBw)
  have hy1 : LsAt w1 Y := hy.below oY (HB.out.mono hBw)
  have hz1 : B ≤ w1.heap.size := Nat.le_trans hBw HB.out.size
  have P0 := Lib.hid (fun (w' : World) (h : Below w1.heap.size w1 w') => dvCrash_any B g0 X w' (HX1.out.d0.below h) (Nat.le_trans hz1 h.size) (hx1.below oX (h.mono hz1)))
  have HD0 : Hid (XAt w1.drew B x g0 g1 S ∧ Kq B (xrl x g0 g1) w w1.drew) := Lib.hid ⟨HX1.out.drew, HK1.out.drew⟩
  have HY1 := Lib.hid hy1
  have hga : w.heap.size < w1.heap.size := (Array.getElem?_eq_some_iff.1 HA.out).1
  have hgb : w.heap.size + 1 < w1.heap.size := (Array.getElem?_eq_some_iff.1 HB2.out).1
  have hda : w.heap.size ≠ g0 ∧ w.heap.size + 1 ≠ g0 := by
    have := hX.d0.lt
    omega
  have c0 := HX1.out.cells.1
  clear hX hx hy hx1 hy1
  go_enter Try.func38, Try.ntmps38
  go_upto_region 1 with fail
  rw [HW.out]
  clear HW
  refine wp_region_lin_all (S := (fun w' => w'.cell? ⟨x, 0, none⟩ = some (.pointer (some ⟨g0, 0, none⟩)) ∧ w'.heap[w.heap.size]? = some (.cells X.cells 32 (0, 0)))) [(0, true), (1, true), (2, true), (3, true), (4, true), (5, true), (6, false)] (by kernel_rfl) (by kernel_rfl) rfl (by kernel_rfl) ?_ (fun hHeld => ?_)
  · (try dsimp only); exact ⟨c0, HA.out⟩
  have HBD : Hid (Below w1.heap.size w1 w1.drew) := Lib.hid (Below.refl _ _).drew
  generalize World.drew w1 = w2 at hHeld HBD HD0 ⊢
  refine wpL_calm (o := { dst := some 6, op := Go.Op.move (Go.Operand.tmp 0), type := 27, pos := "ref.go:57", after := #[], guard := none }) (v := ?_) rfl (Or.inl ⟨by rfl, ?_⟩) ?_; rotate_left; (focus (intro w hSw; (try dsimp only at hSw); go_simp; (try (with_reducible rfl)); done)); try simp only [Act.put, List.setIfInBounds_toArray, List.set_cons_zero, List.set_cons_succ]
  refine wpL_calm (o := { dst := some 7, op := Go.Op.nilCheck (Go.Operand.tmp 6), type := 0, pos := "ref.go:57", after := #[{ on := 0, ground := Go.Ground.data }], guard := none }) (v := ?_) rfl (Or.inl ⟨by rfl, ?_⟩) ?_; rotate_left; (focus (intro w hSw; (try dsimp only at hSw); go_simp; (try (with_reducible rfl)); done)); try simp only [Act.put, List.setIfInBounds_toArray, List.set_cons_zero, List.set_cons_succ]
  refine wpL_calm (o := { dst := some 8, op := Go.Op.fieldAddr 64 (Go.Operand.tmp 7) 0, type := 0, pos := "ref.go:57", after := #[{ on := 1, ground := Go.Ground.data }], guard := none }) (v := ?_) rfl (Or.inl ⟨by rfl, ?_⟩) ?_; rotate_left; (focus (intro w hSw; (try dsimp only at hSw); go_simp; (try (with_reducible rfl)); done)); try simp only [Act.put, List.setIfInBounds_toArray, List.set_cons_zero, List.set_cons_succ]
  refine wpL_calm (o := { dst := some 9, op := Go.Op.indexAddr 61 (Go.Operand.tmp 8) (Go.Operand.const (Go.Value.int Go.IntKind.i64 0)), type := 0, pos := "ref.go:57", after := #[{ on := 2, ground := Go.Ground.data }], guard := none }) (v := ?_) rfl (Or.inl ⟨by rfl, ?_⟩) ?_; rotate_left; (focus (intro w hSw; (try dsimp only at hSw); go_simp; (try (with_reducible rfl)); done)); try simp only [Act.put, List.setIfInBounds_toArray, List.set_cons_zero, List.set_cons_succ]
  refine wpL_calm (o := { dst := some 10, op := Go.Op.load 59 (Go.Operand.tmp 9), type := 59, pos := "ref.go:57", after := #[{ on := 3, ground := Go.Ground.data }], guard := none }) (v := ?_) rfl (Or.inl ⟨by rfl, ?_⟩) ?_; rotate_left; (focus (intro w hSw; (try dsimp only at hSw); go_simp; (try (with_reducible rfl)); done)); try simp only [Act.put, List.setIfInBounds_toArray, List.set_cons_zero, List.set_cons_succ]
  refine wpL_calm (o := { dst := some 11, op := Go.Op.load 32 (Go.Operand.tmp 4), type := 32, pos := "ref.go:57", after := #[], guard := none }) rfl (yieldsIf_load_mid (by rfl) _ _ rfl w.heap.size 0 rfl X.cells.toList _ (fun _ h => ls_range h.2) Try.underlying32 rfl (by rw [Array.length_toList, LsV.cells_size]; exact ls_info)) ?_
  try simp only [Act.put, List.setIfInBounds_toArray, List.set_cons_zero, List.set_cons_succ]
  refine wpL_loud1 (o := { dst := some 12, op := Go.Op.call { callee := Go.Callee.value (Go.Operand.func 59), args := #[Go.Operand.tmp 10, Go.Operand.tmp 11], argTypes := #[59, 32] }, type := 0, pos := "ref.go:57", after := #[{ on := 4, ground := Go.Ground.data }, { on := 5, ground := Go.Ground.data }], guard := none }) rfl (fun K hK => ?_)
  (go_simp; go_at_call 59; refine (P0.out _ HBD.out).mono ?_; rintro e w3 ⟨rfl, d3, k3⟩; have HQ := Lib.hid (HD0.out.1.dev0 d3 k3); have HK3 := Lib.hid k3; clear d3 k3)
  try go_wp2_with fail
  refine hK.out _ _ ?_ (fun hHeld => ?_)
  · (try dsimp only); exact ⟨HQ.out.1.cells.1, (HK3.out.other _ (Nat.lt_of_lt_of_le hga HBD.out.size) (by simpa using hda.1)).trans ((HBD.out.block _ hga).trans HA.out)⟩
  clear hK K
  try simp only [Act.put, List.setIfInBounds_toArray, List.set_cons_zero, List.set_cons_succ]
  refine wpL_nil ?_
  refine NoPanic.normal ?_
  clear hHeld c0 P0
  have HX3 := Lib.hid HQ.out.1
  have HK4 := Lib.hid (HD0.out.2.trans HQ.out.2)
  have HY3 : Hid (LsAt w3 Y) := Lib.hid (HY1.out.below oY ((HBD.out.mono hz1).trans HK3.out.below))
  have HB3 : Hid (w3.heap[w.heap.size + 1]? = some (.cells Y.cells 32 (0, 0))) := Lib.hid ((HK3.out.other _ (Nat.lt_of_lt_of_le hgb HBD.out.size) (by simpa using hda.2)).trans ((HBD.out.block _ hgb).trans HB2.out))
  have hz3 : B ≤ w3.heap.size := Nat.le_trans hBw HK4.out.below.size
  clear HX1 HK1 HA HB2 HB HD0 HY1 HBD HQ HK3 hga
  have P1 := Lib.hid (fun (w' : World) (h : Below w3.heap.size w3 w') => dvCrash_any B g1 Y w' (HX3.out.d1.below h) (Nat.le_trans hz3 h.size) (HY3.out.below oY (h.mono hz3)))
  have HD1 : Hid (XAt w3.drew B x g0 g1 S ∧ Kq B (xrl x g0 g1) w w3.drew) := Lib.hid ⟨HX3.out.drew, HK4.out.drew⟩
  have hgb3 : w.heap.size + 1 < w3.heap.size := (Array.getElem?_eq_some_iff.1 HB3.out).1
  have hdb : w.heap.size + 1 ≠ g1 := fun e => by
    obtain ⟨_, n, s, b, hg0, _⟩ := HX3.out.d1
    rw [← e, HB3.out] at hg0
    injection hg0 with hg0
    injection hg0 with _ q
    exact absurd q (by decide)
  have c1 := HX3.out.cells.2.1
  go_upto_region 2 with fail
  refine wp_region_lin_all (S := (fun w' => w'.cell? ⟨x, 1, none⟩ = some (.pointer (some ⟨g1, 0, none⟩)) ∧ w'.heap[w.heap.size + 1]? = some (.cells Y.cells 32 (0, 0)))) [(0, true), (1, true), (2, true), (3, true), (4, true), (5, true), (6, false)] (by kernel_rfl) (by kernel_rfl) rfl (by kernel_rfl) ?_ (fun hHeld => ?_)
  · (try dsimp only); exact ⟨c1, HB3.out⟩
  have HBD : Hid (Below w3.heap.size w3 w3.drew) := Lib.hid (Below.refl _ _).drew
  generalize World.drew w3 = w4 at hHeld HBD HD1 ⊢
  refine wpL_calm (o := { dst := some 13, op := Go.Op.move (Go.Operand.tmp 0), type := 27, pos := "ref.go:58", after := #[], guard := none }) (v := ?_) rfl (Or.inl ⟨by rfl, ?_⟩) ?_; rotate_left; (focus (intro w hSw; (try dsimp only at hSw); go_simp; (try (with_reducible rfl)); done)); try simp only [Act.put, List.setIfInBounds_toArray, List.set_cons_zero, List.set_cons_succ]
  refine wpL_calm (o := { dst := some 14, op := Go.Op.nilCheck (Go.Operand.tmp 13), type := 0, pos := "ref.go:58", after := #[{ on := 0, ground := Go.Ground.data }], guard := none }) (v := ?_) rfl (Or.inl ⟨by rfl, ?_⟩) ?_; rotate_left; (focus (intro w hSw; (try dsimp only at hSw); go_simp; (try (with_reducible rfl)); done)); try simp only [Act.put, List.setIfInBounds_toArray, List.set_cons_zero, List.set_cons_succ]
  refine wpL_calm (o := { dst := some 15, op := Go.Op.fieldAddr 64 (Go.Operand.tmp 14) 0, type := 0, pos := "ref.go:58", after := #[{ on := 1, ground := Go.Ground.data }], guard := none }) (v := ?_) rfl (Or.inl ⟨by rfl, ?_⟩) ?_; rotate_left; (focus (intro w hSw; (try dsimp only at hSw); go_simp; (try (with_reducible rfl)); done)); try simp only [Act.put, List.setIfInBounds_toArray, List.set_cons_zero, List.set_cons_succ]
  refine wpL_calm (o := { dst := some 16, op := Go.Op.indexAddr 61 (Go.Operand.tmp 15) (Go.Operand.const (Go.Value.int Go.IntKind.i64 1)), type := 0, pos := "ref.go:58", after := #[{ on := 2, ground := Go.Ground.data }], guard := none }) (v := ?_) rfl (Or.inl ⟨by rfl, ?_⟩) ?_; rotate_left; (focus (intro w hSw; (try dsimp only at hSw); go_simp; (try (with_reducible rfl)); done)); try simp only [Act.put, List.setIfInBounds_toArray, List.set_cons_zero, List.set_cons_succ]
  refine wpL_calm (o := { dst := some 17, op := Go.Op.load 59 (Go.Operand.tmp 16), type := 59, pos := "ref.go:58", after := #[{ on := 3, ground := Go.Ground.data }], guard := none }) (v := ?_) rfl (Or.inl ⟨by rfl, ?_⟩) ?_; rotate_left; (focus (intro w hSw; (try dsimp only at hSw); go_simp; (try (with_reducible rfl)); done)); try simp only [Act.put, List.setIfInBounds_toArray, List.set_cons_zero, List.set_cons_succ]
  refine wpL_calm (o := { dst := some 18, op := Go.Op.load 32 (Go.Operand.tmp 5), type := 32, pos := "ref.go:58", after := #[], guard := none }) rfl (yieldsIf_load_mid (by rfl) _ _ rfl (w.heap.size + 1) 0 rfl Y.cells.toList _ (fun _ h => ls_range h.2) Try.underlying32 rfl (by rw [Array.length_toList, LsV.cells_size]; exact ls_info)) ?_
  try simp only [Act.put, List.setIfInBounds_toArray, List.set_cons_zero, List.set_cons_succ]
  refine wpL_loud1 (o := { dst := some 19, op := Go.Op.call { callee := Go.Callee.value (Go.Operand.func 59), args := #[Go.Operand.tmp 17, Go.Operand.tmp 18], argTypes := #[59, 32] }, type := 0, pos := "ref.go:58", after := #[{ on := 4, ground := Go.Ground.data }, { on := 5, ground := Go.Ground.data }], guard := none }) rfl (fun K hK => ?_)
  (go_simp; go_at_call 59; refine (P1.out _ HBD.out).mono ?_; rintro e w5 ⟨rfl, d5, k5⟩; have HQ := Lib.hid (HD1.out.1.dev1 d5 k5); have HK5 := Lib.hid k5; clear d5 k5)
  try go_wp2_with fail
  refine hK.out _ _ ?_ (fun hHeld => ?_)
  · (try dsimp only); exact ⟨HQ.out.1.cells.2.1, (HK5.out.other _ (Nat.lt_of_lt_of_le hgb3 HBD.out.size) (by simpa using hdb)).trans ((HBD.out.block _ hgb3).trans HB3.out)⟩
  clear hK K
  try simp only [Act.put, List.setIfInBounds_toArray, List.set_cons_zero, List.set_cons_succ]
  refine wpL_nil ?_
  refine NoPanic.normal ?_
  clear hHeld c1 P1
  have HX5 := Lib.hid HQ.out.1
  have HK6 := Lib.hid (HD1.out.2.trans HQ.out.2)
  clear HX3 HK4 HY3 HB3 HD1 HBD HQ HK5 hgb3
  have c3 := (HX5.out.cells).2.2.2.1
  have f3 := HX5.out.free 3
  have HX6 := Lib.hid (HX5.out.set 3 (.bool false) (T := { S with dn := false }) rfl HX5.out.ok)
  have HK7 := Lib.hid (HX5.out.kset HK6.out 3 (.bool false))
  go_upto_region 4 with fail
  clear c3 f3 HX5 HK6
  generalize w5.setCell ⟨x, 3, none⟩ (.bool false) = w6 at *
  generalize ({ S with dn := false } : XrS) = S1 at *
  have c5 := (HX6.out.cells).2.2.2.2.2.1
  have f5 := HX6.out.free 5
  have HX7 := Lib.hid (HX6.out.set 5 (.int .i64 0) (T := { S1 with lt := 0 }) rfl (Or.inl (Int.le_refl _)))
  have HK8 := Lib.hid (HX6.out.kset HK7.out 5 (.int .i64 0))
  go_upto_region 5 with fail
  clear c5 f5 HX6 HK7
  generalize w6.setCell ⟨x, 5, none⟩ (.int .i64 0) = w7 at *
  generalize ({ S1 with lt := 0 } : XrS) = S2 at *
  have c6 := (HX7.out.cells).2.2.2.2.2.2.1
  have f6 := HX7.out.free 6
  have HX8 := Lib.hid (HX7.out.set 6 (.int .i64 0) (T := { S2 with ar := 0 }) rfl HX7.out.ok)
  have HK9 := Lib.hid (HX7.out.kset HK8.out 6 (.int .i64 0))
  go_upto_region 6 with fail
  clear c6 f6 HX7 HK8
  generalize w7.setCell ⟨x, 6, none⟩ (.int .i64 0) = w8 at *
  generalize ({ S2 with ar := 0 } : XrS) = S3 at *
  have c7 := (HX8.out.cells).2.2.2.2.2.2.2.1
  have f7 := HX8.out.free 7
  have HX9 := Lib.hid (HX8.out.set 7 (.int .i64 0) (T := { S3 with fa := 0 }) rfl HX8.out.ok)
  have HK10 := Lib.hid (HX8.out.kset HK9.out 7 (.int .i64 0))
  go_wp2_with fail
  go_end0
  exact ⟨rfl, _, HX9.out, HK10.out⟩
end Go.Proofs.Ytjmginkkjkbpoaa
