/- Package over: the reference's Set. -/
import Derived.Test.YtnlgkhggokloeaaOvF
namespace Go.Proofs.Ytnlgkhggokloeaa
open Go.RowKit Go.Deep
set_option linter.unusedVariables false
set_option linter.unusedSimpArgs false
theorem PuO.rowB {w w' : World} {N : Nat} {v : Value} {n : Nat} {xs : List Value} (h : w.ownsRow N 48 2 v n xs) (b : Below w.heap.size w w') : w'.ownsRow N 48 2 v n xs := by
  refine ⟨h.1, ?_⟩
  rcases h.2 with h | ⟨g2, cap, cur, rfl, q1, q2, q3⟩
  · exact Or.inl h
  · exact Or.inr ⟨g2, cap, cur, rfl, q1, (b.block g2 (Array.getElem?_eq_some_iff.1 q2).1).trans q2, q3⟩
theorem box_cells (w : World) (x : Int) (s : ByteArray) : ∀ q u, [Value.int .i64 x, .string s][q]? = some u → (w.alloc (.cells #[.int .i64 x, .string s] 48)).cell? ((⟨w.heap.size, 0, none⟩ : Addr).add q) = some u := by
  intro q u hq
  match q, hq with
  | 0, hq => simp at hq; subst hq; exact World.cell?_alloc_at (w := w) _ _ _ _ rfl
  | 1, hq => simp at hq; subst hq; exact World.cell?_alloc_at (w := w) _ _ _ _ rfl
theorem box_one (x : Int) (s : ByteArray) : ∀ u ∈ [Value.int .i64 x, .string s], u.oneCell' = true := by
  intro u hu
  simp at hu
  rcases hu with rfl | rfl <;> rfl
set_option maxRecDepth 100000 in
set_option maxHeartbeats 8000000 in
theorem rset_any (ao : Option Addr) (c : Nat) (L : List Pu) (z : Pu) (w : World) (hat : PuAt w ao L) (hn : L.length ≤ 90000) : Calls Try.prog 26 #[.slice ao L.length c, putV z] w fun e w' => ∃ v, e = .returned v ∧ PuO w.heap.size w' v (setL L z) ∧ Below w.heap.size w w' := by
  obtain ⟨x, s⟩ := z
  obtain ⟨i0, hi0, hz0, hz1, hz2⟩ := info_partsO info_putO
  obtain ⟨w1, hw1⟩ : ∃ w1, w.alloc (.cells #[.int .i64 x, .string s] 48) = w1 := ⟨_, rfl⟩
  have B1 : Below w.heap.size w w1 := by rw [← hw1]; exact (Below.refl _ _).alloc (Nat.le_refl _) _
  have S1 : w1.heap.size = w.heap.size + 1 := by rw [← hw1]; simp
  have x0 : w1.cell? ⟨w.heap.size, 0, none⟩ = some (.int .i64 x) := by rw [← hw1]; exact World.cell?_alloc_at _ _ _ _ rfl
  have x1 : w1.cell? ⟨w.heap.size, 1, none⟩ = some (.string s) := by rw [← hw1]; exact World.cell?_alloc_at _ _ _ _ rfl
  have CD := Lib.hid (rdrop_any ao c L x w1 (hat.below B1) (by omega))
  have HND : Hid (∀ i (hi : i < (delL L x).length), (delL L x)[i].1 ≠ x) := Lib.hid (fun i hi => (del_mem.1 (List.getElem_mem hi)).2)
  have HSL : Hid (setL L (x, s) = insL (x, s) (delL L x)) := Lib.hid rfl
  have hdl : (delL L x).length ≤ 90000 := Nat.le_trans (List.length_filter_le _ _) hn
  have HW := Lib.hid hw1
  have HB1 := Lib.hid B1
  have hgx1 : w.heap.size < w1.heap.size := by omega
  clear hw1 B1 hat
  unfold putV
  go_enter Try.func26, Try.ntmps26
  go_upto_region 1 with fail
  rw [HW.out]
  clear HW
  go_wp2_with fail
  refine CD.out.mono ?_
  rintro e w2 ⟨v, rfl, hO, hB⟩
  generalize delL L x = D at *
  unfold PuO at hO
  obtain ⟨nd, hnd⟩ : ∃ nd, Hid (D.length = nd) := ⟨_, Lib.hid rfl⟩
  have HLD := hnd
  rw [hnd.out] at hO hdl
  have x20 := (hB.cell (p := ⟨w.heap.size, 0, none⟩) hgx1).trans x0
  have x21 := (hB.cell (p := ⟨w.heap.size, 1, none⟩) hgx1).trans x1
  have HB2 := Lib.hid (HB1.out.trans (hB.mono HB1.out.size))
  have hgx2 : w.heap.size < w2.heap.size := Nat.lt_of_lt_of_le hgx1 hB.size
  have HOD2 := Lib.hid (own_baseO hO HB1.out.size)
  obtain ⟨ad, cd, rfl, hcd⟩ : ∃ ad cd, v = .slice ad nd cd ∧ nd ≤ cd := by
    rcases hO.2 with ⟨rfl, hz⟩ | ⟨g, cap, cur, rfl, hb, hg, hnc, _⟩
    · exact ⟨none, 0, by rw [hz], by omega⟩
    · exact ⟨_, _, rfl, hnc⟩
  clear hO hB x0 x1 CD HB1 hgx1 S1
  have HFX : Hid (∀ w3, Below w2.heap.size w2 w3 → Hid (Below w.heap.size w w3) ∧ Hid (w3.ownsRow w.heap.size 48 2 (.slice ad nd cd) nd (puC D)) ∧ w3.cell? ⟨w.heap.size, 0, none⟩ = some (.int .i64 x) ∧ w3.cell? ⟨w.heap.size, 1, none⟩ = some (.string s) ∧ w.heap.size < w3.heap.size) := Lib.hid (fun w3 b => ⟨Lib.hid (HB2.out.trans (b.mono (Nat.le_of_lt hgx2))), Lib.hid (PuO.rowB HOD2.out b), (b.cell (p := ⟨w.heap.size, 0, none⟩) hgx2).trans x20, (b.cell (p := ⟨w.heap.size, 1, none⟩) hgx2).trans x21, Nat.lt_of_lt_of_le hgx2 b.size⟩)
  clear HB2 x21
  have HGX : Hid (w.heap.size = w.heap.size) := Lib.hid rfl
  generalize hgx0 : w.heap.size = gx at HFX HGX HOD2 x20 hgx2 ⊢
  have HGE := Lib.hid hgx0
  clear hgx0 HGX
  go_wp2_with fail
  go_loopw [5] (fun s5 wi => ∃ i : Nat, s5 = .int .i64 (i : Int) ∧ i ≤ nd ∧ Hid (∀ j (hj : j < D.length), j < i → D[j].1 < x) ∧ Hid (Below w2.heap.size w2 wi)) (fun s5 _ => nd - (intOf s5).toNat)
  case atStart => exact ⟨0, rfl, by omega, Lib.hid (fun j _ h => absurd h (by omega)), Lib.hid (Below.refl _ _)⟩
  case round =>
    obtain ⟨i, rfl, hi, HN, HBi⟩ := hrel
    have x30' := (HBi.out.cell (p := ⟨gx, 0, none⟩) hgx2).trans x20
    by_cases hlt : i < nd
    · have hli : (i : Int) < (nd : Int) := by omega
      have hil : i < D.length := by rw [HLD.out]; exact hlt
      have hrow : ∃ g, ad = some ⟨g, 0, none⟩ ∧ w2.cell? ⟨g, i * 2, none⟩ = some (.int .i64 D[i].1) ∧ g < w2.heap.size := by
        rcases HOD2.out.2 with ⟨e, hz⟩ | ⟨g, cap, cur, e, hb, hg, _⟩
        · omega
        · injection e with e1 _ _
          refine ⟨g, e1, ?_, (Array.getElem?_eq_some_iff.1 hg).1⟩
          have := HOD2.out.cells (g := g) (by rw [e1]; rfl) (i * 2) _ (puC_get D i hil).1
          rw [Addr.add_lit, Nat.zero_add] at this
          exact this
      obtain ⟨g, rfl, hc, hg⟩ := hrow
      have hc' := (HBi.out.cell (p := ⟨g, i * 2, none⟩) hg).trans hc
      by_cases hlx : D[i].1 < x
      · as_aux_lemma =>
        have HN2 : Hid (∀ j (hj : j < D.length), j < i + 1 → D[j].1 < x) := Lib.hid (fun j hj hji => by
          by_cases e : j = i
          · subst e; exact hlx
          · exact HN.out j hj (by omega))
        clear hc
        generalize D[i].1 = y at *
        go_upto_region 3 with fail
        refine wp_region_lin (S := (fun w' => w'.cell? ⟨g, i * 2, none⟩ = some (.int .i64 y) ∧ w'.cell? ⟨gx, 0, none⟩ = some (.int .i64 x))) [(0, true), (1, true), (2, true), (3, true), (4, true), (5, true), (6, true), (7, true), (8, true), (9, true), (10, true), (11, true), (12, true), (13, true)] (by kernel_rfl) (by kernel_rfl) rfl (by kernel_rfl) ?_ (fun hHeld => ?_)
        · (try dsimp only); exact ⟨hc', x30'⟩
        refine wpL_calm (o := { dst := some 11, op := Go.Op.move (Go.Operand.tmp 5), type := 3, pos := "ref.go:31", after := #[], guard := none }) (v := ?_) rfl (Or.inl ⟨by rfl, ?_⟩) ?_; rotate_left; (focus (intro w hSw; (try dsimp only at hSw); go_simp; (try (with_reducible rfl)); done)); try simp only [Act.put, List.setIfInBounds_toArray, List.set_cons_zero, List.set_cons_succ]
        refine wpL_calm (o := { dst := some 12, op := Go.Op.move (Go.Operand.tmp 0), type := 25, pos := "ref.go:31", after := #[], guard := none }) (v := ?_) rfl (Or.inl ⟨by rfl, ?_⟩) ?_; rotate_left; (focus (intro w hSw; (try dsimp only at hSw); go_simp; (try (with_reducible rfl)); done)); try simp only [Act.put, List.setIfInBounds_toArray, List.set_cons_zero, List.set_cons_succ]
        refine wpL_calm (o := { dst := some 13, op := Go.Op.call { callee := Go.Callee.builtin Go.Builtin.len, args := #[Go.Operand.tmp 12], argTypes := #[25] }, type := 3, pos := "ref.go:31", after := #[{ on := 1, ground := Go.Ground.data }], guard := none }) (v := ?_) rfl (Or.inl ⟨by rfl, ?_⟩) ?_; rotate_left; (focus (intro w hSw; (try dsimp only at hSw); go_simp; (try (with_reducible rfl)); done)); try simp only [Act.put, List.setIfInBounds_toArray, List.set_cons_zero, List.set_cons_succ]
        refine wpL_calm (o := { dst := some 14, op := Go.Op.binOp Go.BinOp.lss 3 (Go.Operand.tmp 11) (Go.Operand.tmp 13) 3, type := 4, pos := "ref.go:31", after := #[{ on := 0, ground := Go.Ground.data }, { on := 2, ground := Go.Ground.data }], guard := none }) (v := ?_) rfl (Or.inl ⟨by rfl, ?_⟩) ?_; rotate_left; (focus (intro w hSw; (try dsimp only at hSw); go_simp; (try (with_reducible rfl)); done)); try simp only [Act.put, List.setIfInBounds_toArray, List.set_cons_zero, List.set_cons_succ]
        refine wpL_calm (o := { dst := some 15, op := Go.Op.move (Go.Operand.tmp 14), type := 4, pos := "ref.go:31", after := #[{ on := 3, ground := Go.Ground.data }], guard := none }) (v := ?_) rfl (Or.inl ⟨by rfl, ?_⟩) ?_; rotate_left; (focus (intro w hSw; (try dsimp only at hSw); go_simp; (try (with_reducible rfl)); done)); try simp only [Act.put, List.setIfInBounds_toArray, List.set_cons_zero, List.set_cons_succ]
        refine wpL_calm (o := { dst := some 16, op := Go.Op.move (Go.Operand.tmp 0), type := 25, pos := "ref.go:31", after := #[{ on := 4, ground := Go.Ground.guard }], guard := some (4, true) }) (v := ?_) rfl (Or.inl ⟨by rfl, ?_⟩) ?_; rotate_left; (focus (intro w hSw; (try dsimp only at hSw); go_simp; (try (with_reducible rfl)); done)); try simp only [Act.put, List.setIfInBounds_toArray, List.set_cons_zero, List.set_cons_succ]
        refine wpL_calm (o := { dst := some 17, op := Go.Op.move (Go.Operand.tmp 5), type := 3, pos := "ref.go:31", after := #[{ on := 4, ground := Go.Ground.guard }], guard := some (4, true) }) (v := ?_) rfl (Or.inl ⟨by rfl, ?_⟩) ?_; rotate_left; (focus (intro w hSw; (try dsimp only at hSw); go_simp; (try (with_reducible rfl)); done)); try simp only [Act.put, List.setIfInBounds_toArray, List.set_cons_zero, List.set_cons_succ]
        refine wpL_calm (o := { dst := some 18, op := Go.Op.indexAddr 25 (Go.Operand.tmp 16) (Go.Operand.tmp 17), type := 0, pos := "ref.go:31", after := #[{ on := 5, ground := Go.Ground.data }, { on := 6, ground := Go.Ground.data }, { on := 4, ground := Go.Ground.guard }], guard := some (4, true) }) (v := ?_) rfl (Or.inl ⟨by rfl, ?_⟩) ?_; rotate_left; (focus (intro w hSw; (try dsimp only at hSw); go_simp; (try (with_reducible rfl)); done)); try simp only [Act.put, List.setIfInBounds_toArray, List.set_cons_zero, List.set_cons_succ]
        refine wpL_calm (o := { dst := some 19, op := Go.Op.fieldAddr 48 (Go.Operand.tmp 18) 0, type := 0, pos := "ref.go:31", after := #[{ on := 7, ground := Go.Ground.data }, { on := 4, ground := Go.Ground.guard }], guard := some (4, true) }) (v := ?_) rfl (Or.inl ⟨by rfl, ?_⟩) ?_; rotate_left; (focus (intro w hSw; (try dsimp only at hSw); go_simp; (try (with_reducible rfl)); done)); try simp only [Act.put, List.setIfInBounds_toArray, List.set_cons_zero, List.set_cons_succ]
        refine wpL_calm (o := { dst := some 20, op := Go.Op.load 3 (Go.Operand.tmp 19), type := 3, pos := "ref.go:31", after := #[{ on := 8, ground := Go.Ground.data }, { on := 4, ground := Go.Ground.guard }], guard := some (4, true) }) (v := ?_) rfl (Or.inl ⟨by rfl, ?_⟩) ?_; rotate_left; (focus (intro w hSw; (try dsimp only at hSw); go_simp; (try (with_reducible rfl)); done)); try simp only [Act.put, List.setIfInBounds_toArray, List.set_cons_zero, List.set_cons_succ]
        refine wpL_calm (o := { dst := some 21, op := Go.Op.fieldAddr 48 (Go.Operand.tmp 3) 0, type := 0, pos := "ref.go:31", after := #[{ on := 4, ground := Go.Ground.guard }], guard := some (4, true) }) (v := ?_) rfl (Or.inl ⟨by rfl, ?_⟩) ?_; rotate_left; (focus (intro w hSw; (try dsimp only at hSw); go_simp; (try (with_reducible rfl)); done)); try simp only [Act.put, List.setIfInBounds_toArray, List.set_cons_zero, List.set_cons_succ]
        refine wpL_calm (o := { dst := some 22, op := Go.Op.load 3 (Go.Operand.tmp 21), type := 3, pos := "ref.go:31", after := #[{ on := 10, ground := Go.Ground.data }, { on := 4, ground := Go.Ground.guard }], guard := some (4, true) }) (v := ?_) rfl (Or.inl ⟨by rfl, ?_⟩) ?_; rotate_left; (focus (intro w hSw; (try dsimp only at hSw); go_simp; (try (with_reducible rfl)); done)); try simp only [Act.put, List.setIfInBounds_toArray, List.set_cons_zero, List.set_cons_succ]
        refine wpL_calm (o := { dst := some 23, op := Go.Op.binOp Go.BinOp.lss 3 (Go.Operand.tmp 20) (Go.Operand.tmp 22) 3, type := 4, pos := "ref.go:31", after := #[{ on := 9, ground := Go.Ground.data }, { on := 11, ground := Go.Ground.data }, { on := 4, ground := Go.Ground.guard }], guard := some (4, true) }) (v := ?_) rfl (Or.inl ⟨by rfl, ?_⟩) ?_; rotate_left; (focus (intro w hSw; (try dsimp only at hSw); go_simp; (try (with_reducible rfl)); done)); try simp only [Act.put, List.setIfInBounds_toArray, List.set_cons_zero, List.set_cons_succ]
        refine wpL_calm (o := { dst := some 24, op := Go.Op.pick (Go.Operand.tmp 15) (Go.Operand.tmp 23) (Go.Operand.const (Go.Value.bool false)), type := 4, pos := "ref.go:31", after := #[{ on := 4, ground := Go.Ground.data }, { on := 12, ground := Go.Ground.data }], guard := none }) (v := ?_) rfl (Or.inl ⟨by rfl, ?_⟩) ?_; rotate_left; (focus (intro w hSw; (try dsimp only at hSw); go_simp; (try (with_reducible rfl)); done)); try simp only [Act.put, List.setIfInBounds_toArray, List.set_cons_zero, List.set_cons_succ]
        refine wpL_nil ?_
        refine NoPanic.normal ?_
        have HB9 := Lib.hid HBi.out.drew
        go_wp2_with fail
        go_roundw
        case rel => exact ⟨i + 1, by go_num, by omega, HN2, HB9⟩
        case measure => simp [intOf]; omega
      · as_aux_lemma =>
        have hne : D[i].1 ≠ x := HND.out i hil
        have hlx2 : x < D[i].1 := by omega
        have HDI : Hid (∀ h : i < D.length, x < D[i].1) := Lib.hid (fun _ => hlx2)
        clear hc HND hne hlx2
        generalize D[i].1 = y at *
        go_upto_region 3 with fail
        refine wp_region_lin (S := (fun w' => w'.cell? ⟨g, i * 2, none⟩ = some (.int .i64 y) ∧ w'.cell? ⟨gx, 0, none⟩ = some (.int .i64 x))) [(0, true), (1, true), (2, true), (3, true), (4, true), (5, true), (6, true), (7, true), (8, true), (9, true), (10, true), (11, true), (12, true), (13, true)] (by kernel_rfl) (by kernel_rfl) rfl (by kernel_rfl) ?_ (fun hHeld => ?_)
        · (try dsimp only); exact ⟨hc', x30'⟩
        refine wpL_calm (o := { dst := some 11, op := Go.Op.move (Go.Operand.tmp 5), type := 3, pos := "ref.go:31", after := #[], guard := none }) (v := ?_) rfl (Or.inl ⟨by rfl, ?_⟩) ?_; rotate_left; (focus (intro w hSw; (try dsimp only at hSw); go_simp; (try (with_reducible rfl)); done)); try simp only [Act.put, List.setIfInBounds_toArray, List.set_cons_zero, List.set_cons_succ]
        refine wpL_calm (o := { dst := some 12, op := Go.Op.move (Go.Operand.tmp 0), type := 25, pos := "ref.go:31", after := #[], guard := none }) (v := ?_) rfl (Or.inl ⟨by rfl, ?_⟩) ?_; rotate_left; (focus (intro w hSw; (try dsimp only at hSw); go_simp; (try (with_reducible rfl)); done)); try simp only [Act.put, List.setIfInBounds_toArray, List.set_cons_zero, List.set_cons_succ]
        refine wpL_calm (o := { dst := some 13, op := Go.Op.call { callee := Go.Callee.builtin Go.Builtin.len, args := #[Go.Operand.tmp 12], argTypes := #[25] }, type := 3, pos := "ref.go:31", after := #[{ on := 1, ground := Go.Ground.data }], guard := none }) (v := ?_) rfl (Or.inl ⟨by rfl, ?_⟩) ?_; rotate_left; (focus (intro w hSw; (try dsimp only at hSw); go_simp; (try (with_reducible rfl)); done)); try simp only [Act.put, List.setIfInBounds_toArray, List.set_cons_zero, List.set_cons_succ]
        refine wpL_calm (o := { dst := some 14, op := Go.Op.binOp Go.BinOp.lss 3 (Go.Operand.tmp 11) (Go.Operand.tmp 13) 3, type := 4, pos := "ref.go:31", after := #[{ on := 0, ground := Go.Ground.data }, { on := 2, ground := Go.Ground.data }], guard := none }) (v := ?_) rfl (Or.inl ⟨by rfl, ?_⟩) ?_; rotate_left; (focus (intro w hSw; (try dsimp only at hSw); go_simp; (try (with_reducible rfl)); done)); try simp only [Act.put, List.setIfInBounds_toArray, List.set_cons_zero, List.set_cons_succ]
        refine wpL_calm (o := { dst := some 15, op := Go.Op.move (Go.Operand.tmp 14), type := 4, pos := "ref.go:31", after := #[{ on := 3, ground := Go.Ground.data }], guard := none }) (v := ?_) rfl (Or.inl ⟨by rfl, ?_⟩) ?_; rotate_left; (focus (intro w hSw; (try dsimp only at hSw); go_simp; (try (with_reducible rfl)); done)); try simp only [Act.put, List.setIfInBounds_toArray, List.set_cons_zero, List.set_cons_succ]
        refine wpL_calm (o := { dst := some 16, op := Go.Op.move (Go.Operand.tmp 0), type := 25, pos := "ref.go:31", after := #[{ on := 4, ground := Go.Ground.guard }], guard := some (4, true) }) (v := ?_) rfl (Or.inl ⟨by rfl, ?_⟩) ?_; rotate_left; (focus (intro w hSw; (try dsimp only at hSw); go_simp; (try (with_reducible rfl)); done)); try simp only [Act.put, List.setIfInBounds_toArray, List.set_cons_zero, List.set_cons_succ]
        refine wpL_calm (o := { dst := some 17, op := Go.Op.move (Go.Operand.tmp 5), type := 3, pos := "ref.go:31", after := #[{ on := 4, ground := Go.Ground.guard }], guard := some (4, true) }) (v := ?_) rfl (Or.inl ⟨by rfl, ?_⟩) ?_; rotate_left; (focus (intro w hSw; (try dsimp only at hSw); go_simp; (try (with_reducible rfl)); done)); try simp only [Act.put, List.setIfInBounds_toArray, List.set_cons_zero, List.set_cons_succ]
        refine wpL_calm (o := { dst := some 18, op := Go.Op.indexAddr 25 (Go.Operand.tmp 16) (Go.Operand.tmp 17), type := 0, pos := "ref.go:31", after := #[{ on := 5, ground := Go.Ground.data }, { on := 6, ground := Go.Ground.data }, { on := 4, ground := Go.Ground.guard }], guard := some (4, true) }) (v := ?_) rfl (Or.inl ⟨by rfl, ?_⟩) ?_; rotate_left; (focus (intro w hSw; (try dsimp only at hSw); go_simp; (try (with_reducible rfl)); done)); try simp only [Act.put, List.setIfInBounds_toArray, List.set_cons_zero, List.set_cons_succ]
        refine wpL_calm (o := { dst := some 19, op := Go.Op.fieldAddr 48 (Go.Operand.tmp 18) 0, type := 0, pos := "ref.go:31", after := #[{ on := 7, ground := Go.Ground.data }, { on := 4, ground := Go.Ground.guard }], guard := some (4, true) }) (v := ?_) rfl (Or.inl ⟨by rfl, ?_⟩) ?_; rotate_left; (focus (intro w hSw; (try dsimp only at hSw); go_simp; (try (with_reducible rfl)); done)); try simp only [Act.put, List.setIfInBounds_toArray, List.set_cons_zero, List.set_cons_succ]
        refine wpL_calm (o := { dst := some 20, op := Go.Op.load 3 (Go.Operand.tmp 19), type := 3, pos := "ref.go:31", after := #[{ on := 8, ground := Go.Ground.data }, { on := 4, ground := Go.Ground.guard }], guard := some (4, true) }) (v := ?_) rfl (Or.inl ⟨by rfl, ?_⟩) ?_; rotate_left; (focus (intro w hSw; (try dsimp only at hSw); go_simp; (try (with_reducible rfl)); done)); try simp only [Act.put, List.setIfInBounds_toArray, List.set_cons_zero, List.set_cons_succ]
        refine wpL_calm (o := { dst := some 21, op := Go.Op.fieldAddr 48 (Go.Operand.tmp 3) 0, type := 0, pos := "ref.go:31", after := #[{ on := 4, ground := Go.Ground.guard }], guard := some (4, true) }) (v := ?_) rfl (Or.inl ⟨by rfl, ?_⟩) ?_; rotate_left; (focus (intro w hSw; (try dsimp only at hSw); go_simp; (try (with_reducible rfl)); done)); try simp only [Act.put, List.setIfInBounds_toArray, List.set_cons_zero, List.set_cons_succ]
        refine wpL_calm (o := { dst := some 22, op := Go.Op.load 3 (Go.Operand.tmp 21), type := 3, pos := "ref.go:31", after := #[{ on := 10, ground := Go.Ground.data }, { on := 4, ground := Go.Ground.guard }], guard := some (4, true) }) (v := ?_) rfl (Or.inl ⟨by rfl, ?_⟩) ?_; rotate_left; (focus (intro w hSw; (try dsimp only at hSw); go_simp; (try (with_reducible rfl)); done)); try simp only [Act.put, List.setIfInBounds_toArray, List.set_cons_zero, List.set_cons_succ]
        refine wpL_calm (o := { dst := some 23, op := Go.Op.binOp Go.BinOp.lss 3 (Go.Operand.tmp 20) (Go.Operand.tmp 22) 3, type := 4, pos := "ref.go:31", after := #[{ on := 9, ground := Go.Ground.data }, { on := 11, ground := Go.Ground.data }, { on := 4, ground := Go.Ground.guard }], guard := some (4, true) }) (v := ?_) rfl (Or.inl ⟨by rfl, ?_⟩) ?_; rotate_left; (focus (intro w hSw; (try dsimp only at hSw); go_simp; (try (with_reducible rfl)); done)); try simp only [Act.put, List.setIfInBounds_toArray, List.set_cons_zero, List.set_cons_succ]
        refine wpL_calm (o := { dst := some 24, op := Go.Op.pick (Go.Operand.tmp 15) (Go.Operand.tmp 23) (Go.Operand.const (Go.Value.bool false)), type := 4, pos := "ref.go:31", after := #[{ on := 4, ground := Go.Ground.data }, { on := 12, ground := Go.Ground.data }], guard := none }) (v := ?_) rfl (Or.inl ⟨by rfl, ?_⟩) ?_; rotate_left; (focus (intro w hSw; (try dsimp only at hSw); go_simp; (try (with_reducible rfl)); done)); try simp only [Act.put, List.setIfInBounds_toArray, List.set_cons_zero, List.set_cons_succ]
        refine wpL_nil ?_
        refine NoPanic.normal ?_
        clear hc'
        generalize (some (⟨g, 0, none⟩ : Addr)) = ad at *
        have HI : Hid (insL (x, s) D = D.take i ++ (x, s) :: D.drop i) := Lib.hid (ins_at i (by have := HLD.out; omega) HN.out (fun hi' => HDI.out hi'))
        have hsh := slice_hP ad nd cd i (by omega)
        obtain ⟨w3, hw3⟩ : ∃ w3, wr.drew = w3 := ⟨_, rfl⟩
        have B3i : Below w2.heap.size w2 w3 := by rw [← hw3]; exact HBi.out.drew
        obtain ⟨HB3, HOD, x30, x31, hgx⟩ := HFX.out w3 B3i
        have hsz3 : gx ≤ w3.heap.size := Nat.le_of_lt hgx
        rw [hw3]
        clear hw3 B3i HFX HOD2 x20 x30' hgx2 HBi
        obtain ⟨wa, hwa⟩ : ∃ wa, w3.alloc (.cells #[] 48) = wa := ⟨_, rfl⟩
        have HNN : Hid (wa.ownsRow w3.heap.size 48 2 (.slice (some ⟨w3.heap.size, 0, none⟩) 0 0) 0 []) := Lib.hid (by rw [← hwa]; exact World.ownsRow_made _ _ _ (Nat.le_refl _) (Nat.zero_le _) rfl)
        have HBA : Hid (Below w3.heap.size w3 wa) := Lib.hid (by rw [← hwa]; exact (Below.refl _ _).alloc (Nat.le_refl _) _)
        have HS1 := Lib.hid (src_take (PuO.rowB HOD.out HBA.out) HLD.out hi)
        go_wp2_with (at_builtin; refine wpList_append_src _ rfl _ _ 25 25 rfl w3.heap.size 48 i0 (.agg #[.int .i64 0, .string ⟨#[]⟩]) Try.underlying25 hi0 hz0 (by rw [hz1]; rfl) (.slice (some ⟨w3.heap.size, 0, none⟩) 0 0) 0 [] rfl (by rw [hz1]; exact HNN.out) (.slice ad i cd) i (puC (D.take i)) rfl (by rw [hz1]; exact HS1.out) (by unfold maxLen; omega) (by rw [hz2]; omega) HBA.out.size ?_)
        intro v4 w4 O4 G4
        have HO4 : Hid (w4.ownsRow w3.heap.size 48 2 v4 i (puC (D.take i))) := Lib.hid O4
        obtain ⟨a4, c4, rfl⟩ := own_slO HO4.out
        have HB4 := Lib.hid (HBA.out.grown G4 HBA.out.size (fun j e => (HNN.out.lt j e).1))
        clear O4 G4 HNN HBA HS1
        have x40 := (HB4.out.cell (p := ⟨gx, 0, none⟩) hgx).trans x30
        have x41 := (HB4.out.cell (p := ⟨gx, 1, none⟩) hgx).trans x31
        have hsz4 := HB4.out.size
        go_wp2_with (at_builtin; refine wpList_append_own _ rfl _ _ 25 rfl w3.heap.size 48 i0 (.agg #[.int .i64 0, .string ⟨#[]⟩]) 2 24 Try.underlying25 hi0 hz0 hz1 hz2 rfl (by decide) _ i (puC (D.take i)) rfl (HO4.out.alloc _) ⟨w4.heap.size, 0, none⟩ 1 1 [.int .i64 x, .string s] rfl rfl (box_cells w4 x s) (box_one x s) (by unfold maxLen; omega) (by omega) (by simp; omega) ?_)
        intro v5 w5 O5 G5 _
        have HB5 := Lib.hid ((HB4.out.alloc hsz4 _).grown G5 (by simp; omega) (fun j e => (HO4.out.lt j e).1))
        have HO5 := Lib.hid O5
        obtain ⟨a5, c5, rfl⟩ := own_slO O5
        have HS5 := Lib.hid (src_drop (PuO.rowB HOD.out HB5.out) HLD.out hi)
        have hhl := slice_lP ad nd cd i hi hcd
        clear O5 G5 HO4 HB4 x30 x31 x40 x41
        go_wp2_with (at_builtin; refine wpList_append_src _ rfl _ _ 25 25 rfl w3.heap.size 48 i0 (.agg #[.int .i64 0, .string ⟨#[]⟩]) Try.underlying25 hi0 hz0 (by rw [hz1]; rfl) (.slice a5 (i + 1) c5) (i + 1) (puC (D.take i) ++ [.int .i64 x, .string s]) rfl (by rw [hz1]; exact HO5.out) (.slice (subP ad cd i) (nd - i) (cd - i)) (nd - i) (puC (D.drop i)) rfl (by rw [hz1]; exact HS5.out) (by unfold maxLen; omega) (by rw [hz2]; omega) HB5.out.size ?_)
        intro v6 w6 O6 G6
        have HO6 : Hid (PuO w3.heap.size w6 v6 (D.take i ++ (x, s) :: D.drop i)) := Lib.hid (by
          unfold PuO
          skip
          have e1 : (D.take i ++ (x, s) :: D.drop i).length = i + 1 + (nd - i) := by rw [List.length_append, List.length_cons, List.length_take, List.length_drop, HLD.out]; omega
          have e2 : puC (D.take i ++ (x, s) :: D.drop i) = puC (D.take i) ++ Value.int .i64 x :: Value.string s :: puC (D.drop i) := by rw [puC_app]; rfl
          rw [e1, e2]; exact O6)
        have HB6 := Lib.hid (HB5.out.grown G6 HB5.out.size (fun j e => (HO5.out.lt j e).1))
        obtain ⟨a6, c6, rfl⟩ := own_slO O6
        clear O6 G6 HO5 HB5 HS5 hhl
        go_wp2_with fail
        go_ret
        exact ⟨_, rfl, by rw [HSL.out, HI.out]; exact own_baseO HO6.out (by rw [HGE.out]; exact hsz3), by rw [HGE.out]; exact HB3.out.trans (HB6.out.mono hsz3)⟩
    · as_aux_lemma =>
      have hli : ¬ (i : Int) < (nd : Int) := by omega
      go_upto_region 3 with fail
      refine wp_region_lin (S := (fun w' => w'.cell? ⟨gx, 0, none⟩ = some (.int .i64 x))) [(0, true), (1, true), (2, true), (3, true), (4, true), (5, true), (6, true), (7, true), (8, true), (9, true), (10, true), (11, true), (12, true), (13, true)] (by kernel_rfl) (by kernel_rfl) rfl (by kernel_rfl) ?_ (fun hHeld => ?_)
      · (try dsimp only); exact x30'
      refine wpL_calm (o := { dst := some 11, op := Go.Op.move (Go.Operand.tmp 5), type := 3, pos := "ref.go:31", after := #[], guard := none }) (v := ?_) rfl (Or.inl ⟨by rfl, ?_⟩) ?_; rotate_left; (focus (intro w hSw; (try dsimp only at hSw); go_simp; (try (with_reducible rfl)); done)); try simp only [Act.put, List.setIfInBounds_toArray, List.set_cons_zero, List.set_cons_succ]
      refine wpL_calm (o := { dst := some 12, op := Go.Op.move (Go.Operand.tmp 0), type := 25, pos := "ref.go:31", after := #[], guard := none }) (v := ?_) rfl (Or.inl ⟨by rfl, ?_⟩) ?_; rotate_left; (focus (intro w hSw; (try dsimp only at hSw); go_simp; (try (with_reducible rfl)); done)); try simp only [Act.put, List.setIfInBounds_toArray, List.set_cons_zero, List.set_cons_succ]
      refine wpL_calm (o := { dst := some 13, op := Go.Op.call { callee := Go.Callee.builtin Go.Builtin.len, args := #[Go.Operand.tmp 12], argTypes := #[25] }, type := 3, pos := "ref.go:31", after := #[{ on := 1, ground := Go.Ground.data }], guard := none }) (v := ?_) rfl (Or.inl ⟨by rfl, ?_⟩) ?_; rotate_left; (focus (intro w hSw; (try dsimp only at hSw); go_simp; (try (with_reducible rfl)); done)); try simp only [Act.put, List.setIfInBounds_toArray, List.set_cons_zero, List.set_cons_succ]
      refine wpL_calm (o := { dst := some 14, op := Go.Op.binOp Go.BinOp.lss 3 (Go.Operand.tmp 11) (Go.Operand.tmp 13) 3, type := 4, pos := "ref.go:31", after := #[{ on := 0, ground := Go.Ground.data }, { on := 2, ground := Go.Ground.data }], guard := none }) (v := ?_) rfl (Or.inl ⟨by rfl, ?_⟩) ?_; rotate_left; (focus (intro w hSw; (try dsimp only at hSw); go_simp; (try (with_reducible rfl)); done)); try simp only [Act.put, List.setIfInBounds_toArray, List.set_cons_zero, List.set_cons_succ]
      refine wpL_calm (o := { dst := some 15, op := Go.Op.move (Go.Operand.tmp 14), type := 4, pos := "ref.go:31", after := #[{ on := 3, ground := Go.Ground.data }], guard := none }) (v := ?_) rfl (Or.inl ⟨by rfl, ?_⟩) ?_; rotate_left; (focus (intro w hSw; (try dsimp only at hSw); go_simp; (try (with_reducible rfl)); done)); try simp only [Act.put, List.setIfInBounds_toArray, List.set_cons_zero, List.set_cons_succ]
      refine wpL_calm (o := { dst := some 16, op := Go.Op.move (Go.Operand.tmp 0), type := 25, pos := "ref.go:31", after := #[{ on := 4, ground := Go.Ground.guard }], guard := some (4, true) }) (v := undef) rfl (Or.inr ⟨by rfl, rfl⟩) ?_; try simp only [Act.put, List.setIfInBounds_toArray, List.set_cons_zero, List.set_cons_succ]
      refine wpL_calm (o := { dst := some 17, op := Go.Op.move (Go.Operand.tmp 5), type := 3, pos := "ref.go:31", after := #[{ on := 4, ground := Go.Ground.guard }], guard := some (4, true) }) (v := undef) rfl (Or.inr ⟨by rfl, rfl⟩) ?_; try simp only [Act.put, List.setIfInBounds_toArray, List.set_cons_zero, List.set_cons_succ]
      refine wpL_calm (o := { dst := some 18, op := Go.Op.indexAddr 25 (Go.Operand.tmp 16) (Go.Operand.tmp 17), type := 0, pos := "ref.go:31", after := #[{ on := 5, ground := Go.Ground.data }, { on := 6, ground := Go.Ground.data }, { on := 4, ground := Go.Ground.guard }], guard := some (4, true) }) (v := undef) rfl (Or.inr ⟨by rfl, rfl⟩) ?_; try simp only [Act.put, List.setIfInBounds_toArray, List.set_cons_zero, List.set_cons_succ]
      refine wpL_calm (o := { dst := some 19, op := Go.Op.fieldAddr 48 (Go.Operand.tmp 18) 0, type := 0, pos := "ref.go:31", after := #[{ on := 7, ground := Go.Ground.data }, { on := 4, ground := Go.Ground.guard }], guard := some (4, true) }) (v := undef) rfl (Or.inr ⟨by rfl, rfl⟩) ?_; try simp only [Act.put, List.setIfInBounds_toArray, List.set_cons_zero, List.set_cons_succ]
      refine wpL_calm (o := { dst := some 20, op := Go.Op.load 3 (Go.Operand.tmp 19), type := 3, pos := "ref.go:31", after := #[{ on := 8, ground := Go.Ground.data }, { on := 4, ground := Go.Ground.guard }], guard := some (4, true) }) (v := undef) rfl (Or.inr ⟨by rfl, rfl⟩) ?_; try simp only [Act.put, List.setIfInBounds_toArray, List.set_cons_zero, List.set_cons_succ]
      refine wpL_calm (o := { dst := some 21, op := Go.Op.fieldAddr 48 (Go.Operand.tmp 3) 0, type := 0, pos := "ref.go:31", after := #[{ on := 4, ground := Go.Ground.guard }], guard := some (4, true) }) (v := undef) rfl (Or.inr ⟨by rfl, rfl⟩) ?_; try simp only [Act.put, List.setIfInBounds_toArray, List.set_cons_zero, List.set_cons_succ]
      refine wpL_calm (o := { dst := some 22, op := Go.Op.load 3 (Go.Operand.tmp 21), type := 3, pos := "ref.go:31", after := #[{ on := 10, ground := Go.Ground.data }, { on := 4, ground := Go.Ground.guard }], guard := some (4, true) }) (v := undef) rfl (Or.inr ⟨by rfl, rfl⟩) ?_; try simp only [Act.put, List.setIfInBounds_toArray, List.set_cons_zero, List.set_cons_succ]
      refine wpL_calm (o := { dst := some 23, op := Go.Op.binOp Go.BinOp.lss 3 (Go.Operand.tmp 20) (Go.Operand.tmp 22) 3, type := 4, pos := "ref.go:31", after := #[{ on := 9, ground := Go.Ground.data }, { on := 11, ground := Go.Ground.data }, { on := 4, ground := Go.Ground.guard }], guard := some (4, true) }) (v := undef) rfl (Or.inr ⟨by rfl, rfl⟩) ?_; try simp only [Act.put, List.setIfInBounds_toArray, List.set_cons_zero, List.set_cons_succ]
      refine wpL_calm (o := { dst := some 24, op := Go.Op.pick (Go.Operand.tmp 15) (Go.Operand.tmp 23) (Go.Operand.const (Go.Value.bool false)), type := 4, pos := "ref.go:31", after := #[{ on := 4, ground := Go.Ground.data }, { on := 12, ground := Go.Ground.data }], guard := none }) (v := ?_) rfl (Or.inl ⟨by rfl, ?_⟩) ?_; rotate_left; (focus (intro w hSw; (try dsimp only at hSw); go_simp; (try (with_reducible rfl)); done)); try simp only [Act.put, List.setIfInBounds_toArray, List.set_cons_zero, List.set_cons_succ]
      refine wpL_nil ?_
      refine NoPanic.normal ?_
      have HI : Hid (insL (x, s) D = D.take i ++ (x, s) :: D.drop i) := Lib.hid (ins_at i (by have := HLD.out; omega) HN.out (fun hi' => absurd hi' (by have := HLD.out; omega)))
      have hsh := slice_hP ad nd cd i (by omega)
      obtain ⟨w3, hw3⟩ : ∃ w3, wr.drew = w3 := ⟨_, rfl⟩
      have B3i : Below w2.heap.size w2 w3 := by rw [← hw3]; exact HBi.out.drew
      obtain ⟨HB3, HOD, x30, x31, hgx⟩ := HFX.out w3 B3i
      have hsz3 : gx ≤ w3.heap.size := Nat.le_of_lt hgx
      rw [hw3]
      clear hw3 B3i HFX HOD2 x20 x30' hgx2 HBi
      obtain ⟨wa, hwa⟩ : ∃ wa, w3.alloc (.cells #[] 48) = wa := ⟨_, rfl⟩
      have HNN : Hid (wa.ownsRow w3.heap.size 48 2 (.slice (some ⟨w3.heap.size, 0, none⟩) 0 0) 0 []) := Lib.hid (by rw [← hwa]; exact World.ownsRow_made _ _ _ (Nat.le_refl _) (Nat.zero_le _) rfl)
      have HBA : Hid (Below w3.heap.size w3 wa) := Lib.hid (by rw [← hwa]; exact (Below.refl _ _).alloc (Nat.le_refl _) _)
      have HS1 := Lib.hid (src_take (PuO.rowB HOD.out HBA.out) HLD.out hi)
      go_wp2_with (at_builtin; refine wpList_append_src _ rfl _ _ 25 25 rfl w3.heap.size 48 i0 (.agg #[.int .i64 0, .string ⟨#[]⟩]) Try.underlying25 hi0 hz0 (by rw [hz1]; rfl) (.slice (some ⟨w3.heap.size, 0, none⟩) 0 0) 0 [] rfl (by rw [hz1]; exact HNN.out) (.slice ad i cd) i (puC (D.take i)) rfl (by rw [hz1]; exact HS1.out) (by unfold maxLen; omega) (by rw [hz2]; omega) HBA.out.size ?_)
      intro v4 w4 O4 G4
      have HO4 : Hid (w4.ownsRow w3.heap.size 48 2 v4 i (puC (D.take i))) := Lib.hid O4
      obtain ⟨a4, c4, rfl⟩ := own_slO HO4.out
      have HB4 := Lib.hid (HBA.out.grown G4 HBA.out.size (fun j e => (HNN.out.lt j e).1))
      clear O4 G4 HNN HBA HS1
      have x40 := (HB4.out.cell (p := ⟨gx, 0, none⟩) hgx).trans x30
      have x41 := (HB4.out.cell (p := ⟨gx, 1, none⟩) hgx).trans x31
      have hsz4 := HB4.out.size
      go_wp2_with (at_builtin; refine wpList_append_own _ rfl _ _ 25 rfl w3.heap.size 48 i0 (.agg #[.int .i64 0, .string ⟨#[]⟩]) 2 24 Try.underlying25 hi0 hz0 hz1 hz2 rfl (by decide) _ i (puC (D.take i)) rfl (HO4.out.alloc _) ⟨w4.heap.size, 0, none⟩ 1 1 [.int .i64 x, .string s] rfl rfl (box_cells w4 x s) (box_one x s) (by unfold maxLen; omega) (by omega) (by simp; omega) ?_)
      intro v5 w5 O5 G5 _
      have HB5 := Lib.hid ((HB4.out.alloc hsz4 _).grown G5 (by simp; omega) (fun j e => (HO4.out.lt j e).1))
      have HO5 := Lib.hid O5
      obtain ⟨a5, c5, rfl⟩ := own_slO O5
      have HS5 := Lib.hid (src_drop (PuO.rowB HOD.out HB5.out) HLD.out hi)
      have hhl := slice_lP ad nd cd i hi hcd
      clear O5 G5 HO4 HB4 x30 x31 x40 x41
      go_wp2_with (at_builtin; refine wpList_append_src _ rfl _ _ 25 25 rfl w3.heap.size 48 i0 (.agg #[.int .i64 0, .string ⟨#[]⟩]) Try.underlying25 hi0 hz0 (by rw [hz1]; rfl) (.slice a5 (i + 1) c5) (i + 1) (puC (D.take i) ++ [.int .i64 x, .string s]) rfl (by rw [hz1]; exact HO5.out) (.slice (subP ad cd i) (nd - i) (cd - i)) (nd - i) (puC (D.drop i)) rfl (by rw [hz1]; exact HS5.out) (by unfold maxLen; omega) (by rw [hz2]; omega) HB5.out.size ?_)
      intro v6 w6 O6 G6
      have HO6 : Hid (PuO w3.heap.size w6 v6 (D.take i ++ (x, s) :: D.drop i)) := Lib.hid (by
        unfold PuO
        skip
        have e1 : (D.take i ++ (x, s) :: D.drop i).length = i + 1 + (nd - i) := by rw [List.length_append, List.length_cons, List.length_take, List.length_drop, HLD.out]; omega
        have e2 : puC (D.take i ++ (x, s) :: D.drop i) = puC (D.take i) ++ Value.int .i64 x :: Value.string s :: puC (D.drop i) := by rw [puC_app]; rfl
        rw [e1, e2]; exact O6)
      have HB6 := Lib.hid (HB5.out.grown G6 HB5.out.size (fun j e => (HO5.out.lt j e).1))
      obtain ⟨a6, c6, rfl⟩ := own_slO O6
      clear O6 G6 HO5 HB5 HS5 hhl
      go_wp2_with fail
      go_ret
      exact ⟨_, rfl, by rw [HSL.out, HI.out]; exact own_baseO HO6.out (by rw [HGE.out]; exact hsz3), by rw [HGE.out]; exact HB3.out.trans (HB6.out.mono hsz3)⟩
end Go.Proofs.Ytnlgkhggokloeaa
