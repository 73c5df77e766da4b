/- Package smq: the reference's Beats. -/
import Derived.Test.YtfkepplpeakgmaaQa
import Derived.Test.YtfkepplpeakgmaaOpen
namespace Go.Proofs.Ytfkepplpeakgmaa
open Go.RowKit Go.Deep
set_option linter.unusedVariables false
set_option linter.unusedSimpArgs false
set_option maxRecDepth 100000 in
set_option maxHeartbeats 8000000 in
theorem beats_any (l : Nat → Int) (w : World) (hl : ∀ t, t < 4 → 0 ≤ l t ∧ l t ≤ 1048576) : Calls Try.prog 40 #[.agg #[.int .i64 (l 0), .int .i64 (l 1), .int .i64 (l 2), .int .i64 (l 3)]] w fun e w' => e = .returned (.bool (beatB l)) ∧ Below w.heap.size w w' := by
  obtain ⟨w1, hw1⟩ : ∃ w1, Hid (w.alloc (.cells #[.int .i64 (l 0), .int .i64 (l 1), .int .i64 (l 2), .int .i64 (l 3)] 49) = w1) := ⟨_, Lib.hid rfl⟩
  have HB1 : Hid (Below w.heap.size w w1) := Lib.hid (by rw [← hw1.out]; exact (Below.refl _ _).alloc (Nat.le_refl _) _)
  have CS1 := Lib.hid (rspec_any l w1 hl)
  obtain ⟨_, s1, s2, s3, _, t1, t2, t3⟩ := S0 l
  obtain ⟨g, hg⟩ : ∃ g, Hid (beatB l = g) := ⟨_, Lib.hid rfl⟩
  rw [hg.out]
  obtain ⟨x, hx⟩ : ∃ x, l 0 - l 2 = x := ⟨_, rfl⟩
  obtain ⟨y, hy⟩ : ∃ y, l 3 - l 1 = y := ⟨_, rfl⟩
  obtain ⟨z, hz⟩ : ∃ z, l 0 - l 1 + l 2 - l 3 = z := ⟨_, rfl⟩
  have HG : Hid (g = (decide (x ≠ 0) || decide (y ≠ 0) || decide (z ≠ 0))) := Lib.hid (by rw [← hg.out]; unfold beatB; rw [hx, hy, hz])
  have hy3 : l 1 - l 3 = -y := by omega
  rw [hx] at s1 s3
  rw [hy] at t1
  rw [hz] at s2
  rw [hy3] at t3
  clear hx hy hz hg hy3
  go_enter Try.func40, Try.ntmps40
  go_wp2_with fail
  rw [hw1.out]
  refine CS1.out.mono ?_
  rintro e w2 ⟨g1, g2, rfl, i1, i2, b2⟩
  have HB2 := Lib.hid (HB1.out.trans (b2.mono HB1.out.size))
  have c1 : w2.cell? ⟨g1, 1, none⟩ = some (.int .i64 x) := by rw [i1.cells 1 (by omega), s1]
  have c2 : w2.cell? ⟨g1, 2, none⟩ = some (.int .i64 z) := by rw [i1.cells 2 (by omega), s2]
  have c3 : w2.cell? ⟨g1, 3, none⟩ = some (.int .i64 x) := by rw [i1.cells 3 (by omega), s3]
  have d1 : w2.cell? ⟨g2, 1, none⟩ = some (.int .i64 y) := by rw [i2.cells 1 (by omega), t1]
  have d2 : w2.cell? ⟨g2, 2, none⟩ = some (.int .i64 0) := by rw [i2.cells 2 (by omega), t2]
  have d3 : w2.cell? ⟨g2, 3, none⟩ = some (.int .i64 (-y)) := by rw [i2.cells 3 (by omega), t3]
  clear i1 i2 b2 s1 s2 s3 t1 t2 t3 CS1 HB1 hw1
  go_wp2_with fail
  go_loopw [5] (fun s5 wi => ∃ i : Nat, s5 = .int .i64 (i : Int) ∧ 1 ≤ i ∧ i ≤ 4 ∧ Hid (1 < i → x = 0 ∧ y = 0) ∧ Hid (2 < i → z = 0) ∧ w2 = wi) (fun s5 _ => 4 - (intOf s5).toNat)
  case atStart => exact ⟨1, rfl, by omega, by omega, Lib.hid (fun h => absurd h (by omega)), Lib.hid (fun h => absurd h (by omega)), rfl⟩
  case round =>
    obtain ⟨i, rfl, hi1, hi, H1, H2, rfl⟩ := hrel
    rcases (show i = 1 ∨ i = 2 ∨ i = 3 ∨ i = 4 by omega) with rfl | rfl | rfl | rfl
    · rw [show ((1 : Nat) : Int) = 1 from rfl]
      rcases (show ¬ x = 0 ∨ (x = 0 ∧ ¬ y = 0) ∨ (x = 0 ∧ y = 0) by omega) with u | ⟨u, v⟩ | ⟨u, v⟩
      · have HT : Hid (g = true) := Lib.hid (by rw [HG.out]; simp [u])
        go_wp2_with fail
        go_ret
        exact ⟨by rw [HT.out]; first | done | rfl, HB2.out⟩
      · have HT : Hid (g = true) := Lib.hid (by rw [HG.out]; simp [v])
        go_wp2_with fail
        go_ret
        exact ⟨by rw [HT.out]; first | done | rfl, HB2.out⟩
      · have K1 : Hid (1 < 2 → x = 0 ∧ y = 0) := Lib.hid (fun _ => ⟨u, v⟩)
        go_wp2_with fail
        go_roundw
        case rel => exact ⟨2, rfl, by omega, by omega, K1, Lib.hid (fun h => absurd h (by omega)), by first | rfl | trivial⟩
        case measure => simp [intOf]
    · rw [show ((2 : Nat) : Int) = 2 from rfl]
      rcases (show ¬ z = 0 ∨ z = 0 by omega) with u | u
      · have HT : Hid (g = true) := Lib.hid (by rw [HG.out]; simp [u])
        go_wp2_with fail
        go_ret
        exact ⟨by rw [HT.out]; first | done | rfl, HB2.out⟩
      · have K1 : Hid (1 < 3 → x = 0 ∧ y = 0) := Lib.hid (fun _ => H1.out (by omega))
        have K2 : Hid (2 < 3 → z = 0) := Lib.hid (fun _ => u)
        go_wp2_with fail
        go_roundw
        case rel => exact ⟨3, rfl, by omega, by omega, K1, K2, by first | rfl | trivial⟩
        case measure => simp [intOf]
    · rw [show ((3 : Nat) : Int) = 3 from rfl]
      obtain ⟨u, v⟩ := H1.out (by omega)
      have K1 : Hid (1 < 4 → x = 0 ∧ y = 0) := Lib.hid (fun _ => ⟨u, v⟩)
      have K2 : Hid (2 < 4 → z = 0) := Lib.hid (fun _ => H2.out (by omega))
      have v2 : -y = 0 := by omega
      rw [v2] at d3
      go_wp2_with fail
      go_roundw
      case rel => exact ⟨4, rfl, by omega, by omega, K1, K2, by first | rfl | trivial⟩
      case measure => simp [intOf]
    · rw [show ((4 : Nat) : Int) = 4 from rfl]
      obtain ⟨u, v⟩ := H1.out (by omega)
      have u2 := H2.out (by omega)
      have HT : Hid (g = false) := Lib.hid (by rw [HG.out]; simp [u, v, u2])
      go_wp2_with fail
      go_ret
      exact ⟨by rw [HT.out]; first | done | rfl, HB2.out⟩
end Go.Proofs.Ytfkepplpeakgmaa

/- Package smq: the reference's policy. -/
namespace Go.Proofs.Ytfkepplpeakgmaa
open Go.RowKit Go.Deep
set_option linter.unusedVariables false
set_option linter.unusedSimpArgs false
/-- A queue of the reference stays where only a block of another type turns. -/
theorem XqAt.kqT {B A h b n : Nat} {T : TypeId} {w w' : World} {X : Nat → List Nat} {f : Nat → Value} (hX : XqAt w B h X) (k : Kq A [b] w w') (hne : b ≠ h) (hb : w.rowIs b T n f) (hT : T ≠ 3) : XqAt w' B h X := by
  obtain ⟨hB, s, hs, ho⟩ := hX
  refine ⟨hB, s, World.rowIs.of_block hs (k.other h (World.rowIs.lt hs) (by simpa using fun e => hne e.symm)), fun l hl => ?_⟩
  have hu := ho l hl
  refine ⟨hu.1, ?_⟩
  rcases hu.2 with hh | ⟨g2, cap, cur, e, q1, q2, q3⟩
  · exact Or.inl hh
  · refine Or.inr ⟨g2, cap, cur, e, q1, ?_, q3⟩
    refine k.row (by
      intro hm
      have e' : g2 = b := by simpa using hm
      subst e'
      obtain ⟨c, hc, _, _⟩ := hb
      rw [hc] at q2
      injection q2 with q2
      injection q2 with _ t
      exact absurd t hT) q2
structure PxAt (w : World) (B p h e : Nat) (R S : Nat → List Nat) (C : Nat → Int) (U : Nat → Bool) (k : Nat) : Prop where
  row : w.rowIs p 61 75 (poC h e C U k)
  hot : XqAt w B h R
  held : XqAt w B e S
  ph : p ≠ h
  pe : p ≠ e
  he : h ≠ e
  bp : B ≤ p
  cn : ∀ j, j < 64 → 0 ≤ C j ∧ C j ≤ 1048576
section
variable {w w' : World} {B p h e k : Nat} {R S : Nat → List Nat} {C : Nat → Int} {U : Nat → Bool}
theorem XqAt.row {X : Nat → List Nat} (hX : XqAt w B h X) : ∃ s, w.rowIs h 59 4 s := by
  obtain ⟨_, s, hs, _⟩ := hX
  exact ⟨s, hs⟩
theorem PxAt.lt (q : PxAt w B p h e R S C U k) : p < w.heap.size := World.rowIs.lt q.row
theorem PxAt.below (q : PxAt w B p h e R S C U k) (b : Below w.heap.size w w') : PxAt w' B p h e R S C U k :=
  { q with row := World.rowIs.of_block q.row (b.block p q.lt), hot := q.hot.below b, held := q.held.below b }
theorem PxAt.hotq (q : PxAt w B p h e R S C U k) {R' : Nat → List Nat} (r : XqAt w' B h R') (kq : Kq B [h] w w') : PxAt w' B p h e R' S C U k := by
  obtain ⟨s, hs⟩ := q.hot.row
  exact { q with row := World.rowIs.of_block q.row (kq.other p q.lt (by simpa using q.ph)), hot := r, held := q.held.kqT kq q.he hs (by decide) }
theorem PxAt.heldq (q : PxAt w B p h e R S C U k) {S' : Nat → List Nat} (r : XqAt w' B e S') (kq : Kq B [e] w w') : PxAt w' B p h e R S' C U k := by
  obtain ⟨s, hs⟩ := q.held.row
  exact { q with row := World.rowIs.of_block q.row (kq.other p q.lt (by simpa using q.pe)), hot := q.hot.kqT kq q.he.symm hs (by decide), held := r }
theorem PxAt.c0 (q : PxAt w B p h e R S C U k) : w.cell? ⟨p, 0, none⟩ = some (.pointer (some ⟨h, 0, none⟩)) := q.row.cell (i := 0) (by omega)
theorem PxAt.c1 (q : PxAt w B p h e R S C U k) : w.cell? ⟨p, 1, none⟩ = some (.pointer (some ⟨e, 0, none⟩)) := q.row.cell (i := 1) (by omega)
theorem PxAt.cC (q : PxAt w B p h e R S C U k) {j : Nat} (hj : j < 64) : w.cell? ⟨p, 2 + j, none⟩ = some (.int .i64 (C j)) := by rw [q.row.cell (i := 2 + j) (by omega), poC_C _ _ _ _ _ _ hj]
theorem PxAt.cU (q : PxAt w B p h e R S C U k) {j : Nat} (hj : j < 8) : w.cell? ⟨p, 66 + j, none⟩ = some (.bool (U j)) := by rw [q.row.cell (i := 66 + j) (by omega), poC_U _ _ _ _ _ _ hj]
theorem PxAt.ck (q : PxAt w B p h e R S C U k) : w.cell? ⟨p, 74, none⟩ = some (.int .i64 (k : Int)) := q.row.cell (i := 74) (by omega)
theorem PxAt.free (q : PxAt w B p h e R S C U k) (j : Nat) : w.frozen? ⟨p, j, none⟩ = false := World.rowIs.frozen q.row j
theorem PxAt.setC (q : PxAt w B p h e R S C U k) {i : Nat} (hi : i < 64) (x : Int) (h0 : 0 ≤ x) (h1 : x ≤ 1048576) : PxAt (w.setCell ⟨p, 2 + i, none⟩ (.int .i64 x)) B p h e R S (su C i x) U k := by
  have kq : Kq B [p] w (w.setCell ⟨p, 2 + i, none⟩ (.int .i64 x)) := (Kq.refl _ _ _).setCell (2 + i) _ q.bp (by simp)
  exact { q with
    row := (World.rowIs.set q.row (2 + i) (.int .i64 x)).congr (fun j _ => poC_setC h e C U k i x hi j)
    hot := q.hot.kqT kq q.ph q.row (by decide)
    held := q.held.kqT kq q.pe q.row (by decide)
    cn := fun j hj => by
      unfold su
      split
      · exact ⟨h0, h1⟩
      · exact q.cn j hj }
theorem PxAt.setU (q : PxAt w B p h e R S C U k) {i : Nat} (hi : i < 8) (b : Bool) : PxAt (w.setCell ⟨p, 66 + i, none⟩ (.bool b)) B p h e R S C (sU U i b) k := by
  have kq : Kq B [p] w (w.setCell ⟨p, 66 + i, none⟩ (.bool b)) := (Kq.refl _ _ _).setCell (66 + i) _ q.bp (by simp)
  exact { q with
    row := (World.rowIs.set q.row (66 + i) (.bool b)).congr (fun j _ => poC_setU h e C U k i b hi j)
    hot := q.hot.kqT kq q.ph q.row (by decide)
    held := q.held.kqT kq q.pe q.row (by decide) }
theorem PxAt.setK (q : PxAt w B p h e R S C U k) (m : Nat) : PxAt (w.setCell ⟨p, 74, none⟩ (.int .i64 (m : Int))) B p h e R S C U m := by
  have kq : Kq B [p] w (w.setCell ⟨p, 74, none⟩ (.int .i64 (m : Int))) := (Kq.refl _ _ _).setCell 74 _ q.bp (by simp)
  exact { q with
    row := (World.rowIs.set q.row 74 (.int .i64 (m : Int))).congr (fun j hj => poC_setK h e C U k m j hj)
    hot := q.hot.kqT kq q.ph q.row (by decide)
    held := q.held.kqT kq q.pe q.row (by decide) }
end
end Go.Proofs.Ytfkepplpeakgmaa

/- Package smq: the reference's Hit. -/
namespace Go.Proofs.Ytfkepplpeakgmaa
open Go.RowKit Go.Deep
set_option linter.unusedVariables false
set_option linter.unusedSimpArgs false
section
variable {w : World} {B p ho e k : Nat} {R S : Nat → List Nat} {C : Nat → Int} {U : Nat → Bool}
/-- The queue's part of Hit. -/
theorem su_same (C : Nat → Int) (i : Nat) (x : Int) (h : C i = x) : su C i x = C := by
  funext j
  unfold su
  split
  · rename_i q; rw [q, h]
  · rfl
set_option maxRecDepth 100000 in
set_option maxHeartbeats 8000000 in
theorem rhit_any (j : Nat) (q : PxAt w B p ho e R S C U k) (hj : j < 16) (hlen : ∀ l, l < 4 → (R l).length ≤ 16) : Calls Try.prog 22 #[.pointer (some ⟨p, 0, none⟩), .int .i64 (j : Int)] w fun x w' => x = .returned (.tuple #[]) ∧ PxAt w' B p ho e (hitR R j) S (hitC C k j) U k ∧ Kq B [p, ho, e] w w' := by
  have hji : (j : Int) < 16 := by omega
  obtain ⟨r, hr⟩ : ∃ r, k % 4 = r := ⟨_, rfl⟩
  have hr4 : r < 4 := by omega
  have hri : (r : Int) < 4 := by omega
  have a1 : (k : Int).tmod 4 = (r : Int) := by rw [Int.tmod_eq_emod_of_nonneg (by omega)]; omega
  have a1' : (k : Int) % 4 = (r : Int) := by omega
  have z1 : IntKind.i64.wrap (r : Int) = r := IntWalk.i64_in _ (by omega)
  have ck := q.ck
  have hbp := q.bp
  have HBw : B ≤ w.heap.size := Nat.le_trans q.bp (Nat.le_of_lt q.lt)
  have cc : w.cell? ⟨p, 2 + j * 4 + r, none⟩ = some (.int .i64 (C (4 * j + r))) := by
    have := q.cC (j := 4 * j + r) (by omega)
    rwa [show 2 + (4 * j + r) = 2 + j * 4 + r by omega] at this
  have HQ := Lib.hid q
  have HLE := Lib.hid hlen
  obtain ⟨C', hC'⟩ : ∃ C', Hid (hitC C k j = C') := ⟨_, Lib.hid rfl⟩
  obtain ⟨R', hR'⟩ : ∃ R', Hid (hitR R j = R') := ⟨_, Lib.hid rfl⟩
  rw [hC'.out, hR'.out]
  have hd := q.cn (4 * j + r) (by omega)
  have HD : Hid (C' = su C (4 * j + r) (if C (4 * j + r) < 1048576 then C (4 * j + r) + 1 else 1048576)) := Lib.hid (by rw [← hC'.out]; unfold hitC; rw [hr])
  obtain ⟨D, hDD⟩ : ∃ D, C (4 * j + r) = D := ⟨_, rfl⟩
  rw [hDD] at cc hd HD
  have HDD := Lib.hid hDD
  clear q hC' hr hlen hDD
  by_cases hlt : D < 1048576
  · have e1 : IntKind.i64.wrap (D + 1) = D + 1 := IntWalk.i64_in _ (by omega)
    have HD2 : Hid (C' = su C (4 * j + r) (D + 1)) := Lib.hid (by rw [HD.out, if_pos hlt])
    have HQ1 : Hid (PxAt w.drew B p ho e R S C U k) := Lib.hid (HQ.out.below (Below.refl _ _).drew)
    have HK1 : Hid (Kq B [p, ho, e] w w.drew) := Lib.hid (Kq.refl _ _ _).drew
    clear HD
    go_enter Try.func22, Try.ntmps22
    go_upto_region 2 with fail
    refine wp_region_lin (S := (fun w' => w'.cell? ⟨p, 2 + j * 4 + r, none⟩ = some (.int .i64 D))) [(0, true), (1, true), (2, true), (3, true), (4, true), (5, true), (6, true), (7, true), (8, true), (9, true), (10, true), (11, true), (12, true), (13, true), (14, true), (15, true), (16, false)] (by kernel_rfl) (by kernel_rfl) rfl (by kernel_rfl) ?_ (fun hHeld => ?_)
    · (try dsimp only); exact cc
    clear cc ck
    generalize World.drew w = w1 at hHeld HQ1 HK1 ⊢
    have fc := HQ1.out.free (2 + j * 4 + r)
    refine wpL_calm (o := { dst := some 19, op := Go.Op.move (Go.Operand.tmp 0), type := 25, pos := "ref.go:24", after := #[], guard := none }) (v := ?_) rfl (Or.inl ⟨by rfl, ?_⟩) ?_; rotate_left; (focus (intro w hSw; (try dsimp only at hSw); go_simp; (try (with_reducible rfl)); done)); try simp only [Act.put, List.setIfInBounds_toArray, List.set_cons_zero, List.set_cons_succ]
    refine wpL_calm (o := { dst := some 20, op := Go.Op.move (Go.Operand.tmp 1), type := 3, pos := "ref.go:24", after := #[], guard := none }) (v := ?_) rfl (Or.inl ⟨by rfl, ?_⟩) ?_; rotate_left; (focus (intro w hSw; (try dsimp only at hSw); go_simp; (try (with_reducible rfl)); done)); try simp only [Act.put, List.setIfInBounds_toArray, List.set_cons_zero, List.set_cons_succ]
    refine wpL_calm (o := { dst := some 21, op := Go.Op.move (Go.Operand.tmp 4), type := 3, pos := "ref.go:24", after := #[], guard := none }) (v := ?_) rfl (Or.inl ⟨by rfl, ?_⟩) ?_; rotate_left; (focus (intro w hSw; (try dsimp only at hSw); go_simp; (try (with_reducible rfl)); done)); try simp only [Act.put, List.setIfInBounds_toArray, List.set_cons_zero, List.set_cons_succ]
    refine wpL_calm (o := { dst := some 22, op := Go.Op.move (Go.Operand.tmp 0), type := 25, pos := "ref.go:24", after := #[], guard := none }) (v := ?_) rfl (Or.inl ⟨by rfl, ?_⟩) ?_; rotate_left; (focus (intro w hSw; (try dsimp only at hSw); go_simp; (try (with_reducible rfl)); done)); try simp only [Act.put, List.setIfInBounds_toArray, List.set_cons_zero, List.set_cons_succ]
    refine wpL_calm (o := { dst := some 23, op := Go.Op.move (Go.Operand.tmp 1), type := 3, pos := "ref.go:24", after := #[], guard := none }) (v := ?_) rfl (Or.inl ⟨by rfl, ?_⟩) ?_; rotate_left; (focus (intro w hSw; (try dsimp only at hSw); go_simp; (try (with_reducible rfl)); done)); try simp only [Act.put, List.setIfInBounds_toArray, List.set_cons_zero, List.set_cons_succ]
    refine wpL_calm (o := { dst := some 24, op := Go.Op.move (Go.Operand.tmp 4), type := 3, pos := "ref.go:24", after := #[], guard := none }) (v := ?_) rfl (Or.inl ⟨by rfl, ?_⟩) ?_; rotate_left; (focus (intro w hSw; (try dsimp only at hSw); go_simp; (try (with_reducible rfl)); done)); try simp only [Act.put, List.setIfInBounds_toArray, List.set_cons_zero, List.set_cons_succ]
    refine wpL_calm (o := { dst := some 25, op := Go.Op.nilCheck (Go.Operand.tmp 22), type := 0, pos := "ref.go:24", after := #[{ on := 3, ground := Go.Ground.data }], guard := none }) (v := ?_) rfl (Or.inl ⟨by rfl, ?_⟩) ?_; rotate_left; (focus (intro w hSw; (try dsimp only at hSw); go_simp; (try (with_reducible rfl)); done)); try simp only [Act.put, List.setIfInBounds_toArray, List.set_cons_zero, List.set_cons_succ]
    refine wpL_calm (o := { dst := some 26, op := Go.Op.fieldAddr 61 (Go.Operand.tmp 25) 2, type := 0, pos := "ref.go:24", after := #[{ on := 6, ground := Go.Ground.data }], guard := none }) (v := ?_) rfl (Or.inl ⟨by rfl, ?_⟩) ?_; rotate_left; (focus (intro w hSw; (try dsimp only at hSw); go_simp; (try (with_reducible rfl)); done)); try simp only [Act.put, List.setIfInBounds_toArray, List.set_cons_zero, List.set_cons_succ]
    refine wpL_calm (o := { dst := some 27, op := Go.Op.indexAddr 50 (Go.Operand.tmp 26) (Go.Operand.tmp 23), type := 0, pos := "ref.go:24", after := #[{ on := 7, ground := Go.Ground.data }, { on := 4, ground := Go.Ground.data }], guard := none }) (v := ?_) rfl (Or.inl ⟨by rfl, ?_⟩) ?_; rotate_left; (focus (intro w hSw; (try dsimp only at hSw); go_simp; (try (with_reducible rfl)); done)); try simp only [Act.put, List.setIfInBounds_toArray, List.set_cons_zero, List.set_cons_succ]
    refine wpL_calm (o := { dst := some 28, op := Go.Op.indexAddr 49 (Go.Operand.tmp 27) (Go.Operand.tmp 24), type := 0, pos := "ref.go:24", after := #[{ on := 8, ground := Go.Ground.data }, { on := 5, ground := Go.Ground.data }], guard := none }) (v := ?_) rfl (Or.inl ⟨by rfl, ?_⟩) ?_; rotate_left; (focus (intro w hSw; (try dsimp only at hSw); go_simp; (try (with_reducible rfl)); done)); try simp only [Act.put, List.setIfInBounds_toArray, List.set_cons_zero, List.set_cons_succ]
    refine wpL_calm (o := { dst := some 29, op := Go.Op.load 3 (Go.Operand.tmp 28), type := 3, pos := "ref.go:24", after := #[{ on := 9, ground := Go.Ground.data }], guard := none }) (v := ?_) rfl (Or.inl ⟨by rfl, ?_⟩) ?_; rotate_left; (focus (intro w hSw; (try dsimp only at hSw); go_simp; (try (with_reducible rfl)); done)); try simp only [Act.put, List.setIfInBounds_toArray, List.set_cons_zero, List.set_cons_succ]
    refine wpL_calm (o := { dst := some 30, op := Go.Op.binOp Go.BinOp.add 3 (Go.Operand.tmp 29) (Go.Operand.const (Go.Value.int Go.IntKind.i64 1)) 3, type := 3, pos := "ref.go:24", after := #[{ on := 10, ground := Go.Ground.data }], guard := none }) (v := ?_) rfl (Or.inl ⟨by rfl, ?_⟩) ?_; rotate_left; (focus (intro w hSw; (try dsimp only at hSw); go_simp; (try (with_reducible rfl)); done)); try simp only [Act.put, List.setIfInBounds_toArray, List.set_cons_zero, List.set_cons_succ]
    refine wpL_calm (o := { dst := some 31, op := Go.Op.nilCheck (Go.Operand.tmp 19), type := 0, pos := "ref.go:24", after := #[{ on := 0, ground := Go.Ground.data }], guard := none }) (v := ?_) rfl (Or.inl ⟨by rfl, ?_⟩) ?_; rotate_left; (focus (intro w hSw; (try dsimp only at hSw); go_simp; (try (with_reducible rfl)); done)); try simp only [Act.put, List.setIfInBounds_toArray, List.set_cons_zero, List.set_cons_succ]
    refine wpL_calm (o := { dst := some 32, op := Go.Op.fieldAddr 61 (Go.Operand.tmp 31) 2, type := 0, pos := "ref.go:24", after := #[{ on := 12, ground := Go.Ground.data }], guard := none }) (v := ?_) rfl (Or.inl ⟨by rfl, ?_⟩) ?_; rotate_left; (focus (intro w hSw; (try dsimp only at hSw); go_simp; (try (with_reducible rfl)); done)); try simp only [Act.put, List.setIfInBounds_toArray, List.set_cons_zero, List.set_cons_succ]
    refine wpL_calm (o := { dst := some 33, op := Go.Op.indexAddr 50 (Go.Operand.tmp 32) (Go.Operand.tmp 20), type := 0, pos := "ref.go:24", after := #[{ on := 13, ground := Go.Ground.data }, { on := 1, ground := Go.Ground.data }], guard := none }) (v := ?_) rfl (Or.inl ⟨by rfl, ?_⟩) ?_; rotate_left; (focus (intro w hSw; (try dsimp only at hSw); go_simp; (try (with_reducible rfl)); done)); try simp only [Act.put, List.setIfInBounds_toArray, List.set_cons_zero, List.set_cons_succ]
    refine wpL_calm (o := { dst := some 34, op := Go.Op.indexAddr 49 (Go.Operand.tmp 33) (Go.Operand.tmp 21), type := 0, pos := "ref.go:24", after := #[{ on := 14, ground := Go.Ground.data }, { on := 2, ground := Go.Ground.data }, { on := 0, ground := Go.Ground.phase }, { on := 1, ground := Go.Ground.phase }, { on := 2, ground := Go.Ground.phase }, { on := 3, ground := Go.Ground.phase }, { on := 4, ground := Go.Ground.phase }, { on := 5, ground := Go.Ground.phase }, { on := 6, ground := Go.Ground.phase }, { on := 7, ground := Go.Ground.phase }, { on := 8, ground := Go.Ground.phase }, { on := 9, ground := Go.Ground.phase }, { on := 10, ground := Go.Ground.phase }, { on := 11, ground := Go.Ground.phase }], guard := none }) (v := ?_) rfl (Or.inl ⟨by rfl, ?_⟩) ?_; rotate_left; (focus (intro w hSw; (try dsimp only at hSw); go_simp; (try (with_reducible rfl)); done)); try simp only [Act.put, List.setIfInBounds_toArray, List.set_cons_zero, List.set_cons_succ]
    refine wpL_loud0 (o := { dst := none, op := Go.Op.store 3 (Go.Operand.tmp 34) (Go.Operand.tmp 30), type := 0, pos := "ref.go:24", after := #[{ on := 15, ground := Go.Ground.data }, { on := 11, ground := Go.Ground.data }, { on := 0, ground := Go.Ground.phase }, { on := 1, ground := Go.Ground.phase }, { on := 2, ground := Go.Ground.phase }, { on := 3, ground := Go.Ground.phase }, { on := 4, ground := Go.Ground.phase }, { on := 5, ground := Go.Ground.phase }, { on := 6, ground := Go.Ground.phase }, { on := 7, ground := Go.Ground.phase }, { on := 8, ground := Go.Ground.phase }, { on := 9, ground := Go.Ground.phase }, { on := 10, ground := Go.Ground.phase }, { on := 11, ground := Go.Ground.phase }], guard := none }) rfl (by kernel_rfl) (fun K hK => ?_)
    go_simp
    refine hK.out _ _ ?_
    clear hK K
    try simp only [Act.put, List.setIfInBounds_toArray, List.set_cons_zero, List.set_cons_succ]
    refine wpL_nil ?_
    refine NoPanic.normal ?_
    have HQ2 : Hid (PxAt (w1.setCell ⟨p, 2 + j * 4 + r, none⟩ (.int .i64 (D + 1))) B p ho e R S C' U k) := Lib.hid (by
      have := HQ1.out.setC (i := 4 * j + r) (by omega) (D + 1) (by omega) (by omega)
      rw [show 2 + (4 * j + r) = 2 + j * 4 + r by omega] at this
      rw [HD2.out]
      exact this)
    have HK2 := Lib.hid (HK1.out.setCell (2 + j * 4 + r) (.int .i64 (D + 1)) hbp (by simp))
    obtain ⟨w2, hw2⟩ : ∃ w2, Hid (w1.setCell ⟨p, 2 + j * 4 + r, none⟩ (.int .i64 (D + 1)) = w2) := ⟨_, Lib.hid rfl⟩
    rw [hw2.out] at HQ2 HK2 ⊢
    clear hw2 hHeld HQ1 HK1
    have hBw2 : B ≤ w2.heap.size := Nat.le_trans HBw HK2.out.below.size
    have c0 := HQ2.out.c0
    have CW := Lib.hid (where_any B ho j R w2 HQ2.out.hot HLE.out)
    by_cases hl : lvl R j = -1
    · have HRR : Hid (R' = put R j 0) := Lib.hid (by rw [← hR'.out]; unfold hitR; rw [if_pos hl])
      rw [hl] at CW
      have CP := Lib.hid (rput_any B ho j 0 R w2 HQ2.out.hot hBw2 HLE.out (by omega))
      clear hl hR'
      go_wp2_with fail
      refine CW.out.mono ?_
      rintro x w3 ⟨rfl, rfl⟩
      clear CW
      go_wp2_with fail
      refine CP.out.mono ?_
      rintro x w3 ⟨rfl, r3, k3⟩
      have HQ3 := Lib.hid (HQ2.out.hotq r3 k3)
      have HK3 := Lib.hid (HK2.out.trans (k3.wider (M := [p, ho, e]) (by simp)))
      clear r3 k3 CP HQ2 HK2 c0
      go_wp2_with fail
      go_end0
      exact ⟨rfl, by rw [HRR.out]; exact HQ3.out, HK3.out⟩
    · have HRR : Hid (R' = movA R j 0) := Lib.hid (by rw [← hR'.out]; unfold hitR; rw [if_neg hl])
      have CP := Lib.hid (rmove_any B ho j 0 R w2 HQ2.out.hot hBw2 HLE.out hl (by omega) (by omega))
      obtain ⟨l, hlv⟩ : ∃ l, lvl R j = l := ⟨_, rfl⟩
      have hl0 : 0 ≤ l := by
        rcases lvl_cases R j with ⟨q1, _⟩ | ⟨m, _, q1, _⟩
        · exact absurd q1 hl
        · omega
      rw [hlv] at CW
      clear hl hR' hlv
      go_wp2_with fail
      refine CW.out.mono ?_
      rintro x w3 ⟨rfl, rfl⟩
      clear CW
      go_wp2_with fail
      refine CP.out.mono ?_
      rintro x w3 ⟨rfl, r3, k3⟩
      have HQ3 := Lib.hid (HQ2.out.hotq r3 k3)
      have HK3 := Lib.hid (HK2.out.trans (k3.wider (M := [p, ho, e]) (by simp)))
      clear r3 k3 CP HQ2 HK2 c0
      go_wp2_with fail
      first
        | (go_end0; exact ⟨rfl, by rw [HRR.out]; exact HQ3.out, HK3.out⟩)
        | ((try simp only [Exit.inBlock, Exit.then]); refine bodyPost_ret (results_none rfl _ _ _) rfl ⟨rfl, by rw [HRR.out]; exact HQ3.out, HK3.out⟩)
  · have HD2 : Hid (C' = C) := Lib.hid (by rw [HD.out, if_neg hlt]; exact su_same _ _ _ (by rw [HDD.out]; omega))
    have HQ2 : Hid (PxAt w B p ho e R S C' U k) := Lib.hid (by rw [HD2.out]; exact HQ.out)
    have HK2 : Hid (Kq B [p, ho, e] w w) := Lib.hid (Kq.refl _ _ _)
    have c0 := HQ2.out.c0
    have CW := Lib.hid (where_any B ho j R w HQ2.out.hot HLE.out)
    clear HD HQ
    by_cases hl : lvl R j = -1
    · have HRR : Hid (R' = put R j 0) := Lib.hid (by rw [← hR'.out]; unfold hitR; rw [if_pos hl])
      rw [hl] at CW
      have CP := Lib.hid (rput_any B ho j 0 R w HQ2.out.hot HBw HLE.out (by omega))
      clear hl hR'
      go_enter Try.func22, Try.ntmps22
      go_wp2_with fail
      refine CW.out.mono ?_
      rintro x w3 ⟨rfl, rfl⟩
      clear CW
      go_wp2_with fail
      refine CP.out.mono ?_
      rintro x w3 ⟨rfl, r3, k3⟩
      have HQ3 := Lib.hid (HQ2.out.hotq r3 k3)
      have HK3 := Lib.hid (HK2.out.trans (k3.wider (M := [p, ho, e]) (by simp)))
      clear r3 k3 CP HQ2 HK2 c0
      go_wp2_with fail
      go_end0
      exact ⟨rfl, by rw [HRR.out]; exact HQ3.out, HK3.out⟩
    · have HRR : Hid (R' = movA R j 0) := Lib.hid (by rw [← hR'.out]; unfold hitR; rw [if_neg hl])
      have CP := Lib.hid (rmove_any B ho j 0 R w HQ2.out.hot HBw HLE.out hl (by omega) (by omega))
      obtain ⟨l, hlv⟩ : ∃ l, lvl R j = l := ⟨_, rfl⟩
      have hl0 : 0 ≤ l := by
        rcases lvl_cases R j with ⟨q1, _⟩ | ⟨m, _, q1, _⟩
        · exact absurd q1 hl
        · omega
      rw [hlv] at CW
      clear hl hR' hlv
      go_enter Try.func22, Try.ntmps22
      go_wp2_with fail
      refine CW.out.mono ?_
      rintro x w3 ⟨rfl, rfl⟩
      clear CW
      go_wp2_with fail
      refine CP.out.mono ?_
      rintro x w3 ⟨rfl, r3, k3⟩
      have HQ3 := Lib.hid (HQ2.out.hotq r3 k3)
      have HK3 := Lib.hid (HK2.out.trans (k3.wider (M := [p, ho, e]) (by simp)))
      clear r3 k3 CP HQ2 HK2 c0
      go_wp2_with fail
      first
        | (go_end0; exact ⟨rfl, by rw [HRR.out]; exact HQ3.out, HK3.out⟩)
        | ((try simp only [Exit.inBlock, Exit.then]); refine bodyPost_ret (results_none rfl _ _ _) rfl ⟨rfl, by rw [HRR.out]; exact HQ3.out, HK3.out⟩)
end
end Go.Proofs.Ytfkepplpeakgmaa

/- Package smq: the reference's New. -/
namespace Go.Proofs.Ytfkepplpeakgmaa
open Go.RowKit Go.Deep
set_option linter.unusedVariables false
set_option linter.unusedSimpArgs false
theorem zero_px : ∀ w, (zeroValue 61).run Try.prog w = .ok (.agg #[.pointer none, .pointer none, .int .i64 0, .int .i64 0, .int .i64 0, .int .i64 0, .int .i64 0, .int .i64 0, .int .i64 0, .int .i64 0, .int .i64 0, .int .i64 0, .int .i64 0, .int .i64 0, .int .i64 0, .int .i64 0, .int .i64 0, .int .i64 0, .int .i64 0, .int .i64 0, .int .i64 0, .int .i64 0, .int .i64 0, .int .i64 0, .int .i64 0, .int .i64 0, .int .i64 0, .int .i64 0, .int .i64 0, .int .i64 0, .int .i64 0, .int .i64 0, .int .i64 0, .int .i64 0, .int .i64 0, .int .i64 0, .int .i64 0, .int .i64 0, .int .i64 0, .int .i64 0, .int .i64 0, .int .i64 0, .int .i64 0, .int .i64 0, .int .i64 0, .int .i64 0, .int .i64 0, .int .i64 0, .int .i64 0, .int .i64 0, .int .i64 0, .int .i64 0, .int .i64 0, .int .i64 0, .int .i64 0, .int .i64 0, .int .i64 0, .int .i64 0, .int .i64 0, .int .i64 0, .int .i64 0, .int .i64 0, .int .i64 0, .int .i64 0, .int .i64 0, .int .i64 0, .bool false, .bool false, .bool false, .bool false, .bool false, .bool false, .bool false, .bool false, .int .i64 0]) w := fun w => by kernel_rfl
theorem zero_xq : ∀ w, (zeroValue 59).run Try.prog w = .ok (.agg #[.slice none 0 0, .slice none 0 0, .slice none 0 0, .slice none 0 0]) w := fun w => by kernel_rfl
theorem px_list (h e : Nat) : (#[.pointer (some ⟨h, 0, none⟩), .pointer (some ⟨e, 0, none⟩), .int .i64 0, .int .i64 0, .int .i64 0, .int .i64 0, .int .i64 0, .int .i64 0, .int .i64 0, .int .i64 0, .int .i64 0, .int .i64 0, .int .i64 0, .int .i64 0, .int .i64 0, .int .i64 0, .int .i64 0, .int .i64 0, .int .i64 0, .int .i64 0, .int .i64 0, .int .i64 0, .int .i64 0, .int .i64 0, .int .i64 0, .int .i64 0, .int .i64 0, .int .i64 0, .int .i64 0, .int .i64 0, .int .i64 0, .int .i64 0, .int .i64 0, .int .i64 0, .int .i64 0, .int .i64 0, .int .i64 0, .int .i64 0, .int .i64 0, .int .i64 0, .int .i64 0, .int .i64 0, .int .i64 0, .int .i64 0, .int .i64 0, .int .i64 0, .int .i64 0, .int .i64 0, .int .i64 0, .int .i64 0, .int .i64 0, .int .i64 0, .int .i64 0, .int .i64 0, .int .i64 0, .int .i64 0, .int .i64 0, .int .i64 0, .int .i64 0, .int .i64 0, .int .i64 0, .int .i64 0, .int .i64 0, .int .i64 0, .int .i64 0, .int .i64 0, .bool false, .bool false, .bool false, .bool false, .bool false, .bool false, .bool false, .bool false, .int .i64 0] : Array Value).toList = (List.range 75).map (poC h e zC zU 0) := by kernel_rfl
theorem xq_new (w : World) (B : Nat) (hB : B ≤ w.heap.size) : XqAt (w.alloc (.cells #[.slice none 0 0, .slice none 0 0, .slice none 0 0, .slice none 0 0] 59)) B w.heap.size (fun _ => []) :=
  ⟨hB, fun _ => .slice none 0 0, World.rowIs_alloc w #[.slice none 0 0, .slice none 0 0, .slice none 0 0, .slice none 0 0] 59 (fun _ => .slice none 0 0) (fun i hi => by
    have hi : i < 4 := hi
    rcases (show i = 0 ∨ i = 1 ∨ i = 2 ∨ i = 3 by omega) with rfl | rfl | rfl | rfl <;> rfl), fun l hl => World.ownsRow_nil _ _ _ _⟩
theorem px_new (w : World) (h e : Nat) : (w.alloc (.cells #[.pointer (some ⟨h, 0, none⟩), .pointer (some ⟨e, 0, none⟩), .int .i64 0, .int .i64 0, .int .i64 0, .int .i64 0, .int .i64 0, .int .i64 0, .int .i64 0, .int .i64 0, .int .i64 0, .int .i64 0, .int .i64 0, .int .i64 0, .int .i64 0, .int .i64 0, .int .i64 0, .int .i64 0, .int .i64 0, .int .i64 0, .int .i64 0, .int .i64 0, .int .i64 0, .int .i64 0, .int .i64 0, .int .i64 0, .int .i64 0, .int .i64 0, .int .i64 0, .int .i64 0, .int .i64 0, .int .i64 0, .int .i64 0, .int .i64 0, .int .i64 0, .int .i64 0, .int .i64 0, .int .i64 0, .int .i64 0, .int .i64 0, .int .i64 0, .int .i64 0, .int .i64 0, .int .i64 0, .int .i64 0, .int .i64 0, .int .i64 0, .int .i64 0, .int .i64 0, .int .i64 0, .int .i64 0, .int .i64 0, .int .i64 0, .int .i64 0, .int .i64 0, .int .i64 0, .int .i64 0, .int .i64 0, .int .i64 0, .int .i64 0, .int .i64 0, .int .i64 0, .int .i64 0, .int .i64 0, .int .i64 0, .int .i64 0, .bool false, .bool false, .bool false, .bool false, .bool false, .bool false, .bool false, .bool false, .int .i64 0] 61)).rowIs w.heap.size 61 75 (poC h e zC zU 0) := by
  have hs : (#[.pointer (some ⟨h, 0, none⟩), .pointer (some ⟨e, 0, none⟩), .int .i64 0, .int .i64 0, .int .i64 0, .int .i64 0, .int .i64 0, .int .i64 0, .int .i64 0, .int .i64 0, .int .i64 0, .int .i64 0, .int .i64 0, .int .i64 0, .int .i64 0, .int .i64 0, .int .i64 0, .int .i64 0, .int .i64 0, .int .i64 0, .int .i64 0, .int .i64 0, .int .i64 0, .int .i64 0, .int .i64 0, .int .i64 0, .int .i64 0, .int .i64 0, .int .i64 0, .int .i64 0, .int .i64 0, .int .i64 0, .int .i64 0, .int .i64 0, .int .i64 0, .int .i64 0, .int .i64 0, .int .i64 0, .int .i64 0, .int .i64 0, .int .i64 0, .int .i64 0, .int .i64 0, .int .i64 0, .int .i64 0, .int .i64 0, .int .i64 0, .int .i64 0, .int .i64 0, .int .i64 0, .int .i64 0, .int .i64 0, .int .i64 0, .int .i64 0, .int .i64 0, .int .i64 0, .int .i64 0, .int .i64 0, .int .i64 0, .int .i64 0, .int .i64 0, .int .i64 0, .int .i64 0, .int .i64 0, .int .i64 0, .int .i64 0, .bool false, .bool false, .bool false, .bool false, .bool false, .bool false, .bool false, .bool false, .int .i64 0] : Array Value).size = 75 := rfl
  have := World.rowIs_alloc w #[.pointer (some ⟨h, 0, none⟩), .pointer (some ⟨e, 0, none⟩), .int .i64 0, .int .i64 0, .int .i64 0, .int .i64 0, .int .i64 0, .int .i64 0, .int .i64 0, .int .i64 0, .int .i64 0, .int .i64 0, .int .i64 0, .int .i64 0, .int .i64 0, .int .i64 0, .int .i64 0, .int .i64 0, .int .i64 0, .int .i64 0, .int .i64 0, .int .i64 0, .int .i64 0, .int .i64 0, .int .i64 0, .int .i64 0, .int .i64 0, .int .i64 0, .int .i64 0, .int .i64 0, .int .i64 0, .int .i64 0, .int .i64 0, .int .i64 0, .int .i64 0, .int .i64 0, .int .i64 0, .int .i64 0, .int .i64 0, .int .i64 0, .int .i64 0, .int .i64 0, .int .i64 0, .int .i64 0, .int .i64 0, .int .i64 0, .int .i64 0, .int .i64 0, .int .i64 0, .int .i64 0, .int .i64 0, .int .i64 0, .int .i64 0, .int .i64 0, .int .i64 0, .int .i64 0, .int .i64 0, .int .i64 0, .int .i64 0, .int .i64 0, .int .i64 0, .int .i64 0, .int .i64 0, .int .i64 0, .int .i64 0, .int .i64 0, .bool false, .bool false, .bool false, .bool false, .bool false, .bool false, .bool false, .bool false, .int .i64 0] 61 (poC h e zC zU 0) (fun i hi => by
    rw [hs] at hi
    rw [← Array.getElem?_toList, px_list, List.getElem?_map, List.getElem?_range hi]
    rfl)
  rw [hs] at this
  exact this
set_option maxRecDepth 100000 in
set_option maxHeartbeats 8000000 in
theorem newX_any (w : World) : Calls Try.prog 7 #[] w fun x w' => ∃ p h e, x = .returned (.pointer (some ⟨p, 0, none⟩)) ∧ PxAt w' w.heap.size p h e (fun _ => []) (fun _ => []) zC zU 0 ∧ Below w.heap.size w w' := by
  have hz1 := zero_px
  have hz2 := zero_xq
  obtain ⟨w1, hw1⟩ : ∃ w1, w.alloc (.cells #[.slice none 0 0, .slice none 0 0, .slice none 0 0, .slice none 0 0] 59) = w1 := ⟨_, rfl⟩
  have X1 : XqAt w1 w.heap.size w.heap.size (fun _ => []) := by rw [← hw1]; exact xq_new w _ (Nat.le_refl _)
  have B1 : Below w.heap.size w w1 := by rw [← hw1]; exact (Below.refl _ _).alloc (Nat.le_refl _) _
  have S1 : w1.heap.size = w.heap.size + 1 := by rw [← hw1]; simp
  obtain ⟨w2, hw2⟩ : ∃ w2, w1.alloc (.cells #[.slice none 0 0, .slice none 0 0, .slice none 0 0, .slice none 0 0] 59) = w2 := ⟨_, rfl⟩
  have X2 : XqAt w2 w.heap.size w1.heap.size (fun _ => []) := by rw [← hw2]; exact xq_new w1 _ (by omega)
  have B2 : Below w1.heap.size w1 w2 := by rw [← hw2]; exact (Below.refl _ _).alloc (Nat.le_refl _) _
  have S2 : w2.heap.size = w1.heap.size + 1 := by rw [← hw2]; simp
  obtain ⟨w3, hw3⟩ : ∃ w3, w2.alloc (.cells #[.pointer (some ⟨w.heap.size, 0, none⟩), .pointer (some ⟨w.heap.size + 1, 0, none⟩), .int .i64 0, .int .i64 0, .int .i64 0, .int .i64 0, .int .i64 0, .int .i64 0, .int .i64 0, .int .i64 0, .int .i64 0, .int .i64 0, .int .i64 0, .int .i64 0, .int .i64 0, .int .i64 0, .int .i64 0, .int .i64 0, .int .i64 0, .int .i64 0, .int .i64 0, .int .i64 0, .int .i64 0, .int .i64 0, .int .i64 0, .int .i64 0, .int .i64 0, .int .i64 0, .int .i64 0, .int .i64 0, .int .i64 0, .int .i64 0, .int .i64 0, .int .i64 0, .int .i64 0, .int .i64 0, .int .i64 0, .int .i64 0, .int .i64 0, .int .i64 0, .int .i64 0, .int .i64 0, .int .i64 0, .int .i64 0, .int .i64 0, .int .i64 0, .int .i64 0, .int .i64 0, .int .i64 0, .int .i64 0, .int .i64 0, .int .i64 0, .int .i64 0, .int .i64 0, .int .i64 0, .int .i64 0, .int .i64 0, .int .i64 0, .int .i64 0, .int .i64 0, .int .i64 0, .int .i64 0, .int .i64 0, .int .i64 0, .int .i64 0, .int .i64 0, .bool false, .bool false, .bool false, .bool false, .bool false, .bool false, .bool false, .bool false, .int .i64 0] 61) = w3 := ⟨_, rfl⟩
  have X3 : w3.rowIs (w.heap.size + 1 + 1) 61 75 (poC w.heap.size (w.heap.size + 1) zC zU 0) := by rw [← hw3]; have := px_new w2 w.heap.size (w.heap.size + 1); rwa [show w2.heap.size = w.heap.size + 1 + 1 by omega] at this
  have B3 : Below w2.heap.size w2 w3 := by rw [← hw3]; exact (Below.refl _ _).alloc (Nat.le_refl _) _
  have HP : Hid (PxAt w3 w.heap.size (w.heap.size + 1 + 1) w.heap.size (w.heap.size + 1) (fun _ => []) (fun _ => []) zC zU 0) := Lib.hid
    { row := X3
      hot := (X1.below B2).below B3
      held := by rw [← S1]; exact X2.below B3
      ph := by omega
      pe := by omega
      he := by omega
      bp := by omega
      cn := fun j _ => by unfold zC; omega }
  have HB : Hid (Below w.heap.size w w3) := Lib.hid ((B1.trans (B2.mono (by omega))).trans (B3.mono (by omega)))
  have HW1 := Lib.hid hw1
  have HW2 := Lib.hid hw2
  have HW3 := Lib.hid hw3
  clear X1 X2 X3 B1 B2 B3 S1 S2 hw1 hw2 hw3
  go_enter Try.func7, Try.ntmps7
  go_wp2_with fail
  rw [HW1.out, HW2.out, HW3.out]
  go_ret
  exact ⟨w.heap.size + 1 + 1, rfl, ⟨w.heap.size, w.heap.size + 1, HP.out⟩, HB.out⟩
end Go.Proofs.Ytfkepplpeakgmaa

/- Package smq: rows of calls that came in. -/
namespace Go.Proofs.Ytfkepplpeakgmaa
open Go.RowKit Go.Deep Go.ChangeShapes Go.WideShapes
set_option linter.unusedVariables false
set_option linter.unusedSimpArgs false
/-- A slice of calls: a kind and a number each. -/
def ActQ (w : World) (ao : Option Addr) (len : Nat) : Prop :=
  0 < len → ∃ b off, ao = some ⟨b, off, none⟩ ∧ b < w.heap.size ∧ ∀ i, i < len → ∃ k t : Int, -9223372036854775808 ≤ t ∧ t ≤ 9223372036854775807 ∧ w.cell? ⟨b, off + i * 2, none⟩ = some (.int .i64 k) ∧ w.cell? ⟨b, off + i * 2 + 1, none⟩ = some (.int .i64 t)
theorem ActQ.below {w w' : World} {ao : Option Addr} {len : Nat} (h : ActQ w ao len) (k : Below w.heap.size w w') : ActQ w' ao len := fun hp => by
  obtain ⟨b, off, h1, h2, h3⟩ := h hp
  refine ⟨b, off, h1, Nat.lt_of_lt_of_le h2 k.size, fun i hi => ?_⟩
  obtain ⟨x, t, m1, m2, c0, c1⟩ := h3 i hi
  exact ⟨x, t, m1, m2, (k.cell (p := ⟨b, off + i * 2, none⟩) h2).trans c0, (k.cell (p := ⟨b, off + i * 2 + 1, none⟩) h2).trans c1⟩
theorem i64_in25 {a : Int} (h : (Lit.int .i64 a).wf = true) : -9223372036854775808 ≤ a ∧ a ≤ 9223372036854775807 := by
  have : decide (-9223372036854775808 ≤ a) && decide (a ≤ 9223372036854775807) := h
  simpa using this
section
variable {H : Type} {enc : TypeId × Value → H}
theorem act_fields25 : ∃ f0 f1, Try.prog.underlying 30 = some (.struct #[f0, f1]) ∧ oneCellFields Try.prog #[f0, f1] = true ∧ f0.type = 3 ∧ f1.type = 3 := ⟨_, _, Try.underlying30, by kernel_rfl, rfl, rfl⟩
theorem open_acts25 {w : World} {v : Value} {d : DataW H} {p : List MemPlace} (hok : ∃ a len cap, v = .slice a len cap) (h : DataW.Trod enc Try.prog w 0 (fun _ => true) true 22 v d p) :
    ∃ ao len cap, v = .slice ao len cap ∧ len ≤ maxLen ∧ ActQ w ao len := by
  obtain ⟨f0, f1, hs, hone, t0, t1⟩ := act_fields25
  obtain ⟨ao, len, cap, rfl, hl, hrow⟩ := open_structs Try.underlying22 hs hone (by kernel_rfl) (by simp) h hok
  refine ⟨ao, len, cap, rfl, hl, fun hp => ?_⟩
  obtain ⟨b, off, ho, hb, hi⟩ := hrow hp
  refine ⟨b, off, ho, hb, fun i hil => ?_⟩
  obtain ⟨n, hn⟩ := hi i hil
  obtain ⟨v0, y0, c0, h0⟩ := hn 0 f0 rfl
  obtain ⟨v1, y1, c1, h1⟩ := hn 1 f1 rfl
  rw [t0] at h0
  rw [t1] at h1
  obtain ⟨K, rfl, _⟩ := field_int Try.underlying3 h0
  obtain ⟨N, rfl, hN⟩ := field_int Try.underlying3 h1
  exact ⟨K, N, (i64_in25 hN).1, (i64_in25 hN).2, by simpa using c0, by simpa [Nat.add_assoc] using c1⟩
end
end Go.Proofs.Ytfkepplpeakgmaa

/- Package smq: rows that may be, behind a period's end. -/
namespace Go.Proofs.Ytfkepplpeakgmaa
open Go.RowKit Go.Deep
set_option linter.unusedVariables false
set_option linter.unusedSimpArgs false
theorem RowsOk.itM {n : Nat} {R : Nat → List Nat} (h : RowsOk n R) {j : Nat} (hj : j < n) : ∀ i, RowsOk n (Go.Proofs.Ytfkepplpeakgmaa.itM R j i)
  | 0 => h
  | i + 1 => (RowsOk.itM h hj i).movA 1 hj
theorem RowsOk.setlR {n : Nat} {R : Nat → List Nat} (h : RowsOk n R) {j : Nat} (hj : j < n) (C : Nat → Int) : RowsOk n (Go.Proofs.Ytfkepplpeakgmaa.setlR R C j) := by
  unfold Go.Proofs.Ytfkepplpeakgmaa.setlR
  split
  · split
    · exact h.rem j
    · exact h.movA _ hj
  · exact h.itM hj _
theorem RowsOk.endH {n : Nat} {R : Nat → List Nat} (h : RowsOk n R) (C : Nat → Int) : ∀ g, g ≤ n → RowsOk n (Go.Proofs.Ytfkepplpeakgmaa.endH R C g)
  | 0, _ => h
  | g + 1, hg => by
    unfold Go.Proofs.Ytfkepplpeakgmaa.endH
    split
    · exact RowsOk.endH h C g (by omega)
    · exact (RowsOk.endH h C g (by omega)).setlR (by omega) C
theorem RowsOk.endW {n : Nat} {S : Nat → List Nat} (h : RowsOk n S) (U : Nat → Bool) : ∀ g, g ≤ n → RowsOk n (Go.Proofs.Ytfkepplpeakgmaa.endW S U g)
  | 0, _ => h
  | g + 1, hg => by
    unfold Go.Proofs.Ytfkepplpeakgmaa.endW
    split
    · exact (RowsOk.endW h U g (by omega)).movA _ (by omega)
    · exact RowsOk.endW h U g (by omega)
theorem rise0 {l : Nat → Int} (h : sumQ l = 0) : riseI l = -1 := by unfold riseI; rw [if_pos h]
theorem rise2 {l : Nat → Int} (h : 4 ≤ sumQ l) (hb : beatB l = true) : riseI l = 2 := by unfold riseI; rw [if_neg (by omega), if_pos ⟨h, hb⟩]
theorem rise1 {l : Nat → Int} (h : 3 ≤ sumQ l) (hb : sumQ l < 4 ∨ beatB l = false) : riseI l = 1 := by
  unfold riseI
  rw [if_neg (by omega), if_neg, if_pos h]
  rintro ⟨h4, hb4⟩
  rcases hb with q | q
  · omega
  · rw [q] at hb4; exact absurd hb4 (by decide)
theorem riseN {l : Nat → Int} (h0 : sumQ l ≠ 0) (h : sumQ l < 3) : riseI l = 0 := by
  unfold riseI
  rw [if_neg h0, if_neg (by omega), if_neg (by omega)]
theorem endH_no {R : Nat → List Nat} {C : Nat → Int} {g : Nat} (h : lvl (endH R C g) g = -1) : endH R C (g + 1) = endH R C g := by
  rw [show endH R C (g + 1) = if lvl (endH R C g) g = -1 then endH R C g else setlR (endH R C g) C g from rfl, if_pos h]
theorem endH_yes {R : Nat → List Nat} {C : Nat → Int} {g : Nat} (h : lvl (endH R C g) g ≠ -1) : endH R C (g + 1) = setlR (endH R C g) C g := by
  rw [show endH R C (g + 1) = if lvl (endH R C g) g = -1 then endH R C g else setlR (endH R C g) C g from rfl, if_neg h]
theorem setl_rem {R : Nat → List Nat} {C : Nat → Int} {j : Nat} (h : sumQ (cnt C j) = 0) (hl : lvl R j = 0) : setlR R C j = rem R j := by
  unfold setlR; rw [rise0 h, if_pos (by decide), if_pos hl]
theorem setl_down {R : Nat → List Nat} {C : Nat → Int} {j : Nat} (h : sumQ (cnt C j) = 0) (hl : lvl R j ≠ 0) : setlR R C j = movA R j (-1) := by
  unfold setlR; rw [rise0 h, if_pos (by decide), if_neg hl]
theorem setl_two {R : Nat → List Nat} {C : Nat → Int} {j : Nat} (h : 4 ≤ sumQ (cnt C j)) (hb : beatB (cnt C j) = true) : setlR R C j = movA (movA R j 1) j 1 := by
  unfold setlR; rw [rise2 h hb, if_neg (by decide)]; rfl
theorem setl_one {R : Nat → List Nat} {C : Nat → Int} {j : Nat} (h : 3 ≤ sumQ (cnt C j)) (hb : sumQ (cnt C j) < 4 ∨ beatB (cnt C j) = false) : setlR R C j = movA R j 1 := by
  unfold setlR; rw [rise1 h hb, if_neg (by decide)]; rfl
theorem setl_same {R : Nat → List Nat} {C : Nat → Int} {j : Nat} (h0 : sumQ (cnt C j) ≠ 0) (h : sumQ (cnt C j) < 3) : setlR R C j = R := by
  unfold setlR; rw [riseN h0 h, if_neg (by decide)]; rfl
theorem endW_no {S : Nat → List Nat} {U : Nat → Bool} {s : Nat} (hs : s < 8) (h : lvl (endW S U s) s = -1) : endW S U (s + 1) = endW S U s := by
  rw [show endW S U (s + 1) = if misA (endW S U s) 8 (s : Int) = 0 then movA (endW S U s) s (if U s = true then 1 else -1) else endW S U s from rfl, if_neg]
  unfold misA
  rw [if_neg (by omega), Int.toNat_natCast, if_pos h]; decide
theorem endW_yes {S : Nat → List Nat} {U : Nat → Bool} {s : Nat} (hs : s < 8) (h : lvl (endW S U s) s ≠ -1) : endW S U (s + 1) = movA (endW S U s) s (if U s = true then 1 else -1) := by
  rw [show endW S U (s + 1) = if misA (endW S U s) 8 (s : Int) = 0 then movA (endW S U s) s (if U s = true then 1 else -1) else endW S U s from rfl, if_pos (misA_ok hs h)]
theorem misW {R : Nat → List Nat} {i : Nat} (h : lvl R i ≠ -1) : 0 ≤ lvl R i := by
  rcases lvl_cases R i with ⟨q, _⟩ | ⟨l, _, q, _⟩
  · exact absurd q h
  · omega
section
variable {w w' : World} {B p ho e k : Nat} {R S : Nat → List Nat} {C : Nat → Int} {U : Nat → Bool}
theorem PxAt.thC (q : PxAt w B p ho e R S C U k) : w.there p 2 64 := fun j hj => ⟨by rw [q.cC hj]; rfl, q.free _⟩
theorem PxAt.thU (q : PxAt w B p ho e R S C U k) : w.there p 66 8 := fun j hj => ⟨by rw [q.cU hj]; rfl, q.free _⟩
theorem PxAt.zeroC (q : PxAt w B p ho e R S C U k) : PxAt (w.setCells p 2 (#[.int .i64 0, .int .i64 0, .int .i64 0, .int .i64 0, .int .i64 0, .int .i64 0, .int .i64 0, .int .i64 0, .int .i64 0, .int .i64 0, .int .i64 0, .int .i64 0, .int .i64 0, .int .i64 0, .int .i64 0, .int .i64 0, .int .i64 0, .int .i64 0, .int .i64 0, .int .i64 0, .int .i64 0, .int .i64 0, .int .i64 0, .int .i64 0, .int .i64 0, .int .i64 0, .int .i64 0, .int .i64 0, .int .i64 0, .int .i64 0, .int .i64 0, .int .i64 0, .int .i64 0, .int .i64 0, .int .i64 0, .int .i64 0, .int .i64 0, .int .i64 0, .int .i64 0, .int .i64 0, .int .i64 0, .int .i64 0, .int .i64 0, .int .i64 0, .int .i64 0, .int .i64 0, .int .i64 0, .int .i64 0, .int .i64 0, .int .i64 0, .int .i64 0, .int .i64 0, .int .i64 0, .int .i64 0, .int .i64 0, .int .i64 0, .int .i64 0, .int .i64 0, .int .i64 0, .int .i64 0, .int .i64 0, .int .i64 0, .int .i64 0, .int .i64 0] : Array Value).toList) B p ho e R S zC U k :=
  { q with
    row := (rowIs_sets _ 2 w _ q.row).congr (fun j hj => by
      rw [z64_list, List.length_replicate]
      by_cases h1 : 2 ≤ j ∧ j < 2 + 64
      · rw [if_pos h1, List.getD_eq_getElem?_getD, List.getElem?_replicate, if_pos (by omega), Option.getD_some]
        unfold poC zC
        rw [if_neg (by omega), if_neg (by omega), if_pos (by omega)]
      · rw [if_neg h1]
        unfold poC
        by_cases a0 : j = 0
        · rw [if_pos a0, if_pos a0]
        · rw [if_neg a0, if_neg a0]
          by_cases a1 : j = 1
          · rw [if_pos a1, if_pos a1]
          · rw [if_neg a1, if_neg a1, if_neg (show ¬ j < 66 by omega), if_neg (show ¬ j < 66 by omega)])
    hot := q.hot.kqT ((Kq.refl B [p] w).sets 2 _ q.bp (by simp)) q.ph q.row (by decide)
    held := q.held.kqT ((Kq.refl B [p] w).sets 2 _ q.bp (by simp)) q.pe q.row (by decide)
    cn := fun j _ => by unfold zC; omega }
theorem PxAt.zeroU (q : PxAt w B p ho e R S C U k) : PxAt (w.setCells p 66 (#[.bool false, .bool false, .bool false, .bool false, .bool false, .bool false, .bool false, .bool false] : Array Value).toList) B p ho e R S C zU k :=
  { q with
    row := (rowIs_sets _ 66 w _ q.row).congr (fun j hj => by
      rw [f8_list, List.length_replicate]
      by_cases h1 : 66 ≤ j ∧ j < 66 + 8
      · rw [if_pos h1, List.getD_eq_getElem?_getD, List.getElem?_replicate, if_pos (by omega), Option.getD_some]
        unfold poC zU
        rw [if_neg (by omega), if_neg (by omega), if_neg (by omega), if_pos (by omega)]
      · rw [if_neg h1]
        unfold poC
        by_cases a0 : j < 66
        · rw [if_pos a0, if_pos a0]
        · rw [if_neg a0, if_neg a0, if_neg (show ¬ j < 74 by omega), if_neg (show ¬ j < 74 by omega)])
    hot := q.hot.kqT ((Kq.refl B [p] w).sets 66 _ q.bp (by simp)) q.ph q.row (by decide)
    held := q.held.kqT ((Kq.refl B [p] w).sets 66 _ q.bp (by simp)) q.pe q.row (by decide) }
end
end Go.Proofs.Ytfkepplpeakgmaa
