/- The law ViewLooks. -/
import Derived.Test.YtapmnacggpcffaaVwQ
namespace Go.Proofs.Ytapmnacggpcffaa
open Go.ChangeShapes Go.WideShapes Go.Deep Go.RowKit
set_option linter.unusedVariables false
set_option linter.unusedSimpArgs false
theorem run_bin_opV {P : Program} {o : Oper} {a : Act} {vx vy : Array Value} {r : Value} {w : World} (op : BinOp) (ty t2 : TypeId) (x y : Operand) (ho : o.op = .binOp op ty x y t2) (hg : P.eqGuardType P.depth ty = false) (hx : a.eval x = .agg vx) (hy : a.eval y = .agg vy) (hb : (binOp op ty (.agg vx) (.agg vy)).run P w = .ok r w) :
    (execOp a.eval o).run P w = .ok (.value r) w := by
  unfold execOp
  simp only [ho, hx, hy, Sem.run_bind, Sem.run_pure, run_eqGuard_agg (P := P) (hm := hg), Result.andThen_ok, hb]
theorem eqg_seen : Try.prog.eqGuardType Try.prog.depth 33 = false := by kernel_rfl
theorem size_iV : ∀ w, (sizeOf 3).run Try.prog w = .ok 1 w := fun w => by kernel_rfl
theorem eql5 (a b c d e : Int) (w : World) : (binOp .eql 28 (.agg #[.int .i64 a, .int .i64 b, .int .i64 c, .int .i64 d, .int .i64 e]) (.agg #[.int .i64 a, .int .i64 b, .int .i64 c, .int .i64 d, .int .i64 e])).run Try.prog w = .ok (.bool true) w := by
  have h := run_eql_row (P := Try.prog) (m := 5) (fun j => if j = 0 then a else if j = 1 then b else if j = 2 then c else if j = 3 then d else e) (fun j => if j = 0 then a else if j = 1 then b else if j = 2 then c else if j = 3 then d else e) Try.underlying28 Try.underlying3 size_iV rfl w
  have e1 : (rowL (fun j => if j = 0 then a else if j = 1 then b else if j = 2 then c else if j = 3 then d else e) 5).toArray = #[.int .i64 a, .int .i64 b, .int .i64 c, .int .i64 d, .int .i64 e] := rfl
  rw [e1] at h
  rw [h]
  simp
theorem conv_u8V (z : Nat) (h : z ≤ 255) (w : World) : (convert 5 3 (.int .u8 (z : Int))).run Try.prog w = .ok (.int .i64 (z : Int)) w := by
  go_simp
  rw [IntKind.wrap_i64]
  omega
theorem ext_all (s : ByteArray) (h : s.size = 18432) : s.extract 0 18432 = s := by
  apply ba_eq33
  rw [ByteArray.data_extract, Array.toList_extract, List.extract_eq_take_drop, List.drop_zero]
  exact List.take_of_length_le (by rw [Array.length_toList]; exact Nat.le_of_eq h)
attribute [local irreducible] imgT
set_option maxRecDepth 100000 in
set_option maxHeartbeats 16000000 in
theorem viewLooks_any (ao : Option Addr) (c : Nat) (L : List Cg) (z : Nat) (w : World) (hat : CgAt w ao L) (hn : L.length ≤ maxLen) (hz : z ≤ 255) : Calls Try.prog 3 #[.slice ao L.length c, .int .u8 (z : Int)] w fun e w' => e = .returned (.bool true) ∧ Below w.heap.size w w' := by
  have CI := Lib.hid (image_any ao c L w hat (by unfold maxLen at hn; omega))
  have hT := imgT_size L
  generalize imgT L = T at *
  obtain ⟨m, hm⟩ : ∃ m, z % 3 = m := ⟨_, rfl⟩
  have hm3 : m < 3 := by omega
  have hmod : (z : Int) % 3 = (m : Int) := by omega
  have htm : Int.tmod (z : Int) 3 = (m : Int) := by rw [Int.tmod_eq_emod_of_nonneg (by omega)]; exact hmod
  have hcv := conv_u8V m (by omega)
  have d0 : (0 : Int) ≤ (m : Int) := by omega
  have d1 : (m : Int) ≤ 18432 := by omega
  have HX := Lib.hid (ext_all T hT)
  have HNO : Hid (0 < m → (T.extract m 18432).size ≠ 18432) := Lib.hid (fun h => by rw [ByteArray.size_extract]; omega)
  obtain ⟨nl, hnl⟩ : ∃ nl, L.length = nl := ⟨_, rfl⟩
  rw [hnl] at CI ⊢
  clear hat hn hnl hm
  go_enter Try.func3, Try.ntmps3
  go_wp2_with fail
  refine CI.out.mono ?_
  rintro e w1 ⟨rfl, b1⟩
  have HB1 := Lib.hid b1
  clear CI b1
  by_cases hm0 : 0 < m
  · as_aux_lemma =>
    have hs := HNO.out hm0
    have hmi : (0 : Int) < (m : Int) := by omega
    have CL := Lib.hid (look_no (T.extract m 18432) w1 hs)
    have CC := Lib.hid (count_no (T.extract m 18432) w1 hs)
    have heq := eql5 0 0 0 0 0
    go_wp2_with fail
    refine CL.out.mono ?_
    rintro e w' ⟨rfl, rfl⟩
    go_wp2_with fail
    refine CC.out.mono ?_
    rintro e w2 ⟨rfl, b2⟩
    have HB2 := Lib.hid (HB1.out.trans (b2.mono HB1.out.size))
    clear CL CC b2 HB1
    obtain ⟨w3, hw3⟩ : ∃ w3, w2.alloc (.cells #[.int .i64 0, .int .i64 0, .int .i64 0, .int .i64 0, .int .i64 0] 28) = w3 := ⟨_, rfl⟩
    have B3 : Below w2.heap.size w2 w3 := by rw [← hw3]; exact (Below.refl _ _).alloc (Nat.le_refl _) _
    have r3 : w3.heap[w2.heap.size]? = some (.cells #[.int .i64 0, .int .i64 0, .int .i64 0, .int .i64 0, .int .i64 0] 28 (0, 0)) := by rw [← hw3]; exact heap_alloc_new _ _
    have HB3 := Lib.hid (HB2.out.trans (B3.mono HB2.out.size))
    have HW3 := Lib.hid hw3
    clear hw3 B3
    go_upto_region 4 with fail
    rw [HW3.out]
    go_wp2_with fail
    refine (awake33 w3).mono ?_
    rintro e w4 ⟨rfl, b4⟩
    have r4 := (b4.block w2.heap.size (Array.getElem?_eq_some_iff.1 r3).1).trans r3
    have k0 : w4.cell? ⟨w2.heap.size, 0, none⟩ = some (.int .i64 0) := cell_of_row w4 _ 0 _ _ _ r4
    have k1 : w4.cell? ⟨w2.heap.size, 1, none⟩ = some (.int .i64 0) := cell_of_row w4 _ 1 _ _ _ r4
    have k2 : w4.cell? ⟨w2.heap.size, 2, none⟩ = some (.int .i64 0) := cell_of_row w4 _ 2 _ _ _ r4
    have k3 : w4.cell? ⟨w2.heap.size, 3, none⟩ = some (.int .i64 0) := cell_of_row w4 _ 3 _ _ _ r4
    have k4 : w4.cell? ⟨w2.heap.size, 4, none⟩ = some (.int .i64 0) := cell_of_row w4 _ 4 _ _ _ r4
    have HB4 := Lib.hid (HB3.out.trans (b4.mono HB3.out.size))
    clear r3 r4 HW3 HB3 b4 HB2
    go_wp2_with fail
    go_ret
    exact ⟨by first | rfl | simp, HB4.out⟩
  · as_aux_lemma =>
    obtain rfl : m = 0 := by omega
    have hX := HX.out
    have CL := Lib.hid (look_any T w1 hT)
    unfold LookR at CL
    go_wp2_with fail
    refine CL.out.mono ?_
    rintro e w2 ⟨pm, cm, rfl, hom, b2⟩
    have HB2 := Lib.hid (HB1.out.trans (b2.mono HB1.out.size))
    have CC := Lib.hid (count_any T w2 hT)
    unfold cntA at CC
    obtain ⟨c0, hc0⟩ : ∃ x, Hid (cntF T 288 0 = x) := ⟨_, Lib.hid rfl⟩
    obtain ⟨c1, hc1⟩ : ∃ x, Hid (cntF T 288 1 = x) := ⟨_, Lib.hid rfl⟩
    obtain ⟨c2, hc2⟩ : ∃ x, Hid (cntF T 288 2 = x) := ⟨_, Lib.hid rfl⟩
    obtain ⟨c3, hc3⟩ : ∃ x, Hid (cntF T 288 3 = x) := ⟨_, Lib.hid rfl⟩
    obtain ⟨c4, hc4⟩ : ∃ x, Hid (cntF T 288 4 = x) := ⟨_, Lib.hid rfl⟩
    rw [hc0.out, hc1.out, hc2.out, hc3.out, hc4.out] at CC
    clear CL HB1
    go_wp2_with fail
    refine CC.out.mono ?_
    rintro e w3 ⟨rfl, b3⟩
    have HB3 := Lib.hid (HB2.out.trans (b3.mono HB2.out.size))
    have HOM := Lib.hid (World.ownsRow.kept_below hom b3)
    rcases HOM.out.2 with ⟨e9, h0⟩ | ⟨ga, cap, cur, e9, _, hga, _⟩
    · omega
    injection e9 with e1 _ e3
    subst e1 e3
    have hgl3 := (Array.getElem?_eq_some_iff.1 hga).1
    obtain ⟨w4, hw4⟩ : ∃ w4, w3.alloc (.cells #[.int .i64 c0, .int .i64 c1, .int .i64 c2, .int .i64 c3, .int .i64 c4] 28) = w4 := ⟨_, rfl⟩
    have B4 : Below w3.heap.size w3 w4 := by rw [← hw4]; exact (Below.refl _ _).alloc (Nat.le_refl _) _
    have r4 : w4.heap[w3.heap.size]? = some (.cells #[.int .i64 c0, .int .i64 c1, .int .i64 c2, .int .i64 c3, .int .i64 c4] 28 (0, 0)) := by rw [← hw4]; exact heap_alloc_new _ _
    have hg8 := (Array.getElem?_eq_some_iff.1 r4).1
    have hgl := Nat.lt_of_lt_of_le hgl3 B4.size
    have HB4 := Lib.hid (HB3.out.trans (B4.mono HB3.out.size))
    have HOM4 := Lib.hid (World.ownsRow.kept_below HOM.out B4)
    obtain ⟨w5, hw5⟩ : ∃ w5, w4.alloc (.cells #[.int .i64 0, .int .i64 0, .int .i64 0, .int .i64 0, .int .i64 0] 28) = w5 := ⟨_, rfl⟩
    have B5 : Below w4.heap.size w4 w5 := by rw [← hw5]; exact (Below.refl _ _).alloc (Nat.le_refl _) _
    have HC5 : Hid (C5 w5 w4.heap.size (cntF T 0)) := Lib.hid ⟨#[.int .i64 0, .int .i64 0, .int .i64 0, .int .i64 0, .int .i64 0], by rw [← hw5]; exact heap_alloc_new _ _, rfl, fun j hj => by
      rcases j with _ | _ | _ | _ | _ | j
      · rfl
      · rfl
      · rfl
      · rfl
      · rfl
      · omega⟩
    have HB5 := Lib.hid B5
    have HW4 := Lib.hid hw4
    have HW5 := Lib.hid hw5
    obtain ⟨g8, hg8e⟩ : ∃ g8, Hid (w3.heap.size = g8) := ⟨_, Lib.hid rfl⟩
    obtain ⟨g10, hg10e⟩ : ∃ g10, Hid (w4.heap.size = g10) := ⟨_, Lib.hid rfl⟩
    rw [hg8e.out] at r4 hg8
    rw [hg10e.out] at HC5 HB5 hg8 hgl
    clear hw4 hw5 B4 B5 CC b2 b3 hom HOM hga hgl3 HB2 HB3
    go_upto_region 4 with fail
    rw [HW4.out, hg8e.out]
    go_upto_region 9 with fail
    rw [HW5.out, hg10e.out]
    clear HW4 HW5
    go_wp2_with fail
    go_loopw [11] (fun s11 wi => ∃ i : Nat, s11 = .int .i64 (i : Int) ∧ i ≤ 288 ∧ Hid (C5 wi g10 (cntF T i)) ∧ Hid (Below g10 w4 wi)) (fun s11 _ => 288 - (intOf s11).toNat)
    case atStart => exact ⟨0, rfl, by omega, HC5, HB5⟩
    case round =>
      obtain ⟨i, rfl, hi, HC, HB⟩ := hrel
      by_cases hlt : i < 288
      · as_aux_lemma =>
        have hli : (i : Int) < 288 := by omega
        have CR := Lib.hid (rlook_any T i wr hT hlt)
        unfold seenA at CR
        obtain ⟨q0, q1, q2, q3⟩ := seenC_get T i 288 hlt
        have k0 := HOM4.out.cells (g := ga) rfl _ _ q0
        have k1 := HOM4.out.cells (g := ga) rfl _ _ q1
        have k2 := HOM4.out.cells (g := ga) rfl _ _ q2
        have k3 := HOM4.out.cells (g := ga) rfl _ _ q3
        rw [Addr.add_lit, Nat.zero_add] at k0 k1 k2 k3
        obtain ⟨kb0, kb4⟩ := whatK_bd i hlt
        have HST := Lib.hid (fun w' k h hz hk => C5.step (w := w') (g := g10) (s := T) (i := i) (k := k) h hz hk)
        have HSK := Lib.hid (fun w' h hz => C5.skip (w := w') (g := g10) (s := T) (i := i) h hz)
        generalize whatI (i : Int) = I at *
        generalize numV T i = N at *
        obtain ⟨K, hK⟩ : ∃ K, whatK (i : Int) = K := ⟨_, rfl⟩
        obtain ⟨Z, hZ⟩ : ∃ Z, zerV T i = Z := ⟨_, rfl⟩
        rw [hK] at k0 kb0 kb4 CR
        rw [hZ] at k3 CR
        obtain ⟨k, rfl⟩ : ∃ k : Nat, K = (k : Int) := ⟨K.toNat, by omega⟩
        have hk5 : k < 5 := by omega
        have hg10l := World.rowIs.lt HC.out
        go_wp2_with fail
        refine CR.out.mono ?_
        rintro e w6 ⟨rfl, b6⟩
        have HB6 := Lib.hid (HB.out.trans (b6.mono (Nat.le_of_lt hg10l)))
        have HC6 : Hid (C5 w6 g10 (cntF T i)) := Lib.hid (World.rowIs.of_block HC.out (b6.block g10 hg10l))
        have hg10l6 := Nat.lt_of_lt_of_le hg10l b6.size
        obtain ⟨w7, hw7⟩ : ∃ w7, w6.alloc (.cells #[.int .i64 (k : Int), .int .i64 I, .int .i64 N, .bool Z] 33) = w7 := ⟨_, rfl⟩
        have HB7 : Hid (Below g10 w4 w7) := Lib.hid (by rw [← hw7]; exact HB6.out.alloc (Nat.le_of_lt hg10l6) _)
        have HC7 : Hid (C5 w7 g10 (cntF T i)) := Lib.hid (by rw [← hw7]; exact World.rowIs.alloc HC6.out _)
        have r7 : w7.heap[w6.heap.size]? = some (.cells #[.int .i64 (k : Int), .int .i64 I, .int .i64 N, .bool Z] 33 (0, 0)) := by rw [← hw7]; exact heap_alloc_new _ _
        obtain ⟨gx, hgx⟩ : ∃ gx, Hid (w6.heap.size = gx) := ⟨_, Lib.hid rfl⟩
        rw [hgx.out] at r7
        obtain ⟨y0, y1, y2, y3⟩ := four_cells r7
        have k0 := (HB7.out.cell (p := ⟨ga, i * 4, none⟩) hgl).trans k0
        have k1 := (HB7.out.cell (p := ⟨ga, i * 4 + 1, none⟩) hgl).trans k1
        have k2 := (HB7.out.cell (p := ⟨ga, i * 4 + 2, none⟩) hgl).trans k2
        have k3 := (HB7.out.cell (p := ⟨ga, i * 4 + 3, none⟩) hgl).trans k3
        have HW7 := Lib.hid hw7
        clear hw7 q0 q1 q2 q3 r7 CR b6 HB6 HC6 HB HC
        go_upto_region 13 with fail
        rw [HW7.out, hgx.out]
        clear HW7
        refine wp_region_lin (S := (fun w' => (w'.cell? ⟨ga, i * 4, none⟩ = some (.int .i64 (k : Int)) ∧ w'.cell? ⟨ga, i * 4 + 1, none⟩ = some (.int .i64 I) ∧ w'.cell? ⟨ga, i * 4 + 2, none⟩ = some (.int .i64 N) ∧ w'.cell? ⟨ga, i * 4 + 3, none⟩ = some (.bool Z)) ∧ w'.cell? ⟨gx, 0, none⟩ = some (.int .i64 (k : Int)) ∧ w'.cell? ⟨gx, 1, none⟩ = some (.int .i64 I) ∧ w'.cell? ⟨gx, 2, none⟩ = some (.int .i64 N) ∧ w'.cell? ⟨gx, 3, none⟩ = some (.bool Z))) [(0, true), (1, true), (2, true), (3, true), (4, true), (5, true)] (by kernel_rfl) (by kernel_rfl) rfl (by kernel_rfl) ?_ (fun hHeld => ?_)
        · (try dsimp only); exact ⟨⟨k0, k1, k2, k3⟩, y0, y1, y2, y3⟩
        (refine wpL_calm (o := { dst := some 69, op := Go.Op.move (Go.Operand.tmp 6), type := 24, pos := "law.go:58", after := #[], guard := none }) (v := ?_) rfl (Or.inl ⟨by rfl, ?_⟩) ?_; rotate_left; (focus (intro w hSw; (try dsimp only at hSw); go_simp; (try (with_reducible rfl)); done)); try simp only [Act.put, List.setIfInBounds_toArray, List.set_cons_zero, List.set_cons_succ])
        (refine wpL_calm (o := { dst := some 70, op := Go.Op.move (Go.Operand.tmp 11), type := 3, pos := "law.go:58", after := #[], guard := none }) (v := ?_) rfl (Or.inl ⟨by rfl, ?_⟩) ?_; rotate_left; (focus (intro w hSw; (try dsimp only at hSw); go_simp; (try (with_reducible rfl)); done)); try simp only [Act.put, List.setIfInBounds_toArray, List.set_cons_zero, List.set_cons_succ])
        (refine wpL_calm (o := { dst := some 71, op := Go.Op.indexAddr 24 (Go.Operand.tmp 69) (Go.Operand.tmp 70), type := 0, pos := "law.go:58", after := #[{ on := 0, ground := Go.Ground.data }, { on := 1, ground := Go.Ground.data }], guard := none }) (v := ?_) rfl (Or.inl ⟨by rfl, ?_⟩) ?_; rotate_left; (focus (intro w hSw; (try dsimp only at hSw); go_simp; (try (with_reducible rfl)); done)); try simp only [Act.put, List.setIfInBounds_toArray, List.set_cons_zero, List.set_cons_succ])
        (refine wpL_calm (o := { dst := some 72, op := Go.Op.load 33 (Go.Operand.tmp 71), type := 33, pos := "law.go:58", after := #[{ on := 2, ground := Go.Ground.data }], guard := none }) (v := ?_) rfl (Or.inl ⟨by rfl, ?_⟩) ?_; rotate_left; (focus (intro w hSw; (try dsimp only at hSw); go_simp; (try (with_reducible rfl)); done)); try simp only [Act.put, List.setIfInBounds_toArray, List.set_cons_zero, List.set_cons_succ])
        (refine wpL_calm (o := { dst := some 73, op := Go.Op.load 33 (Go.Operand.tmp 12), type := 33, pos := "law.go:58", after := #[], guard := none }) (v := ?_) rfl (Or.inl ⟨by rfl, ?_⟩) ?_; rotate_left; (focus (intro w hSw; (try dsimp only at hSw); go_simp; (try (with_reducible rfl)); done)); try simp only [Act.put, List.setIfInBounds_toArray, List.set_cons_zero, List.set_cons_succ])
        refine wpL_calm (o := { dst := some 74, op := Go.Op.binOp Go.BinOp.neq 33 (Go.Operand.tmp 72) (Go.Operand.tmp 73) 33, type := 4, pos := "law.go:58", after := #[{ on := 3, ground := Go.Ground.data }, { on := 4, ground := Go.Ground.data }], guard := none }) (v := .bool false) rfl (Or.inl ⟨by rfl, ?_⟩) ?_; (focus (intro w hSw; exact run_bin_opV .neq _ _ _ _ rfl eqg_seen rfl rfl (neq_seenS _ _ _ _ w)))
        try simp only [Act.put, List.setIfInBounds_toArray, List.set_cons_zero, List.set_cons_succ]
        refine wpL_nil ?_
        refine NoPanic.normal ?_
        have HC8 : Hid (C5 w7.drew g10 (cntF T i)) := Lib.hid (World.rowIs.drew HC7.out)
        have HB8 := Lib.hid HB7.out.drew
        obtain ⟨_, y0, y1, y2, y3⟩ := hHeld
        clear HC7 HB7 k0 k1 k2 k3
        generalize w7.drew = w8 at *
        cases Z
        · as_aux_lemma =>
          have cb := cntF_bd T i k
          have HC9 := Lib.hid (HST.out w8 k HC8.out hZ hK)
          have HB9 : Hid (∀ u, Below g10 w4 (w8.setCell ⟨g10, k, none⟩ u)) := Lib.hid (fun u => HB8.out.setCell (p := ⟨g10, k, none⟩) (Nat.le_refl _) u)
          have hcell := World.rowIs.cell HC8.out hk5
          have hf := World.rowIs.frozen HC8.out k
          have hki : (k : Int) < 5 := by omega
          generalize cntF T i k = cc at *
          go_wp2_with fail
          go_roundw
          case rel => exact ⟨i + 1, by go_num, by omega, HC9, Lib.hid (HB9.out _)⟩
          case measure => simp [intOf]; omega
        · as_aux_lemma =>
          have HC9 := Lib.hid (HSK.out w8 HC8.out hZ)
          go_wp2_with fail
          go_roundw
          case rel => exact ⟨i + 1, by go_num, by omega, HC9, HB8⟩
          case measure => simp [intOf]; omega
      · as_aux_lemma =>
        have hli : ¬ (i : Int) < 288 := by omega
        obtain rfl : i = 288 := by omega
        have hg10l := World.rowIs.lt HC.out
        have r6 := (HB.out.block g8 hg8).trans r4
        have HB6 := Lib.hid (HB4.out.trans (HB.out.mono (by rw [← hg10e.out]; exact HB4.out.size)))
        go_wp2_with fail
        refine (awake33 wr).mono ?_
        rintro e w6 ⟨rfl, b6⟩
        have HB7 := Lib.hid (HB6.out.trans (b6.mono HB6.out.size))
        have HC7 := World.rowIs.of_block HC.out (b6.block g10 hg10l)
        have r7 := (b6.block g8 (Array.getElem?_eq_some_iff.1 r6).1).trans r6
        have k0 := World.rowIs.cell HC7 (i := 0) (by omega)
        have k1 := World.rowIs.cell HC7 (i := 1) (by omega)
        have k2 := World.rowIs.cell HC7 (i := 2) (by omega)
        have k3 := World.rowIs.cell HC7 (i := 3) (by omega)
        have k4 := World.rowIs.cell HC7 (i := 4) (by omega)
        rw [hc0.out] at k0
        rw [hc1.out] at k1
        rw [hc2.out] at k2
        rw [hc3.out] at k3
        rw [hc4.out] at k4
        have j0 : w6.cell? ⟨g8, 0, none⟩ = some (.int .i64 c0) := cell_of_row w6 _ 0 _ _ _ r7
        have j1 : w6.cell? ⟨g8, 1, none⟩ = some (.int .i64 c1) := cell_of_row w6 _ 1 _ _ _ r7
        have j2 : w6.cell? ⟨g8, 2, none⟩ = some (.int .i64 c2) := cell_of_row w6 _ 2 _ _ _ r7
        have j3 : w6.cell? ⟨g8, 3, none⟩ = some (.int .i64 c3) := cell_of_row w6 _ 3 _ _ _ r7
        have j4 : w6.cell? ⟨g8, 4, none⟩ = some (.int .i64 c4) := cell_of_row w6 _ 4 _ _ _ r7
        have heq := eql5 c0 c1 c2 c3 c4
        clear HC HC7 r6 r7 HB6 HB b6 hc0 hc1 hc2 hc3 hc4
        go_wp2_with fail
        go_ret
        exact ⟨by first | rfl | simp, HB7.out⟩
section
variable {H : Type} {enc : TypeId × Value → H}
theorem viewLooks_walk (v : Value) (d : DataW H) (p : List MemPlace) (a1 : Int) (w : World) (hv : ∃ a len cap, v = .slice a len cap) (h : DataW.Trod enc Try.prog w 0 (fun _ => true) true 22 v d p) (hw : (Lit.int .u8 a1).wf = true) :
    Calls Try.prog 3 #[v, .int .u8 a1] w fun e w' => e = .returned (.bool true) ∧ Below w.heap.size w w' := by
  obtain ⟨a', len', cap', rfl⟩ := hv
  obtain ⟨n, hh⟩ := h
  have ec : (Value.slice a' len' cap').cells.toList = [.slice a' len' cap'] := by simp [Value.cells]
  rw [ec] at hh
  obtain ⟨ao, len, cap, L, e, h1, h2, h3, h4, _⟩ := open_cgN hh
  have hzb : 0 ≤ a1 ∧ a1 ≤ 255 := by
    have h2 : IntKind.u8.min ≤ a1 ∧ a1 ≤ IntKind.u8.max := by simpa [Lit.wf] using hw
    rw [show IntKind.u8.min = 0 from by decide, show IntKind.u8.max = 255 from by decide] at h2
    exact h2
  obtain ⟨q, rfl⟩ : ∃ q : Nat, a1 = (q : Int) := ⟨a1.toNat, by omega⟩
  rw [e, ← h3]
  exact viewLooks_any ao cap L q w h4 (by omega) (by omega)
end
end Go.Proofs.Ytapmnacggpcffaa
