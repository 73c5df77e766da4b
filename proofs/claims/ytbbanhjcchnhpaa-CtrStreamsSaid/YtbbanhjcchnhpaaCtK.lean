/- Laws of package ctr (cellaret): CtrStreams. -/
import Derived.Test.YtbbanhjcchnhpaaCtI
import Derived.Test.YtbbanhjcchnhpaaOpenR
import Derived.Lib.SmallJoins
import Derived.Deep.CutRange
import Derived.Deep.CutBlock
namespace Go.Proofs.Ytbbanhjcchnhpaa
open Go.RowKit Go.Deep Go.ChangeShapes Go.WideShapes
set_option linter.unusedVariables false
set_option linter.unusedSimpArgs false
section
variable {H : Type} {enc : TypeId × Value → H}
set_option maxRecDepth 100000 in
theorem four_fields5 : ∃ f0 f1 f2 f3, Try.prog.underlying 46 = some (.struct #[f0, f1, f2, f3]) ∧ oneCellFields Try.prog #[f0, f1, f2, f3] = true ∧ f0.type = 9 ∧ f1.type = 3 ∧ f2.type = 3 ∧ f3.type = 9 :=
  ⟨_, _, _, _, Try.underlying46, by kernel_rfl, rfl, rfl, rfl, rfl⟩
set_option maxRecDepth 100000 in
theorem open_four5 {w : World} {r : Reach} {b0 : Nat} {v : Value} {d : DataW H} {p : List MemPlace} (hok : Value.okWide Try.prog w r b0 46 v) (h : DataW.Trod enc Try.prog w 0 (fun _ => true) true 46 v d p) :
    ∃ (a : ByteArray) (n m : Int) (s : ByteArray), v = .agg #[.string a, .int .i64 n, .int .i64 m, .string s] := by
  obtain ⟨f0, f1, f2, f3, hs, hone, t0, t1, t2, t3⟩ := four_fields5
  obtain ⟨v0, v1, v2, v3, y0, y1, y2, y3, n, rfl, _, _, h0, h1, h2, h3⟩ := Joins.open_agg4 hs hone (by kernel_rfl) hok h
  rw [t0] at h0
  rw [t1] at h1
  rw [t2] at h2
  rw [t3] at h3
  obtain ⟨a, rfl⟩ := field_str Try.underlying9 h0
  obtain ⟨N, rfl, wN⟩ := field_int Try.underlying3 h1
  obtain ⟨M, rfl, wM⟩ := field_int Try.underlying3 h2
  obtain ⟨s, rfl⟩ := field_str Try.underlying9 h3
  exact ⟨a, N, M, s, rfl⟩
end
set_option maxRecDepth 100000 in
set_option maxHeartbeats 4000000 in
theorem ctrStreams_body (key : ByteArray) (num n0 : Int) (s0 : ByteArray) (w : World) :
    Calls Try.prog 8 #[.agg #[.string key, .int .i64 num, .int .i64 n0, .string s0]] w fun e w' => e = .returned (.bool true) ∧ Below w.heap.size w w' := by
  have ha0 := none_add
  have CK := Lib.hid (fun w => key5_any key w)
  have CR := Lib.hid (fun w => right_any num w)
  have CST := Lib.hid (fun n w hn h4 => rst_any (cutB key 32) num n w (cutB_size key 32) hn h4)
  generalize wI (cutB key 32).data.toList 60 = W at *
  generalize cutB key 32 = ks at *
  obtain ⟨w1, HW1, HB1, c0, c1, c2, c3⟩ : ∃ w1, Hid (w.alloc (.cells #[.string key, .int .i64 num, .int .i64 n0, .string s0] 46) = w1) ∧ Hid (Below w.heap.size w w1) ∧ w1.cell? ⟨w.heap.size, 0, none⟩ = some (.string key) ∧ w1.cell? ⟨w.heap.size, 1, none⟩ = some (.int .i64 num) ∧ w1.cell? ⟨w.heap.size, 2, none⟩ = some (.int .i64 n0) ∧ w1.cell? ⟨w.heap.size, 3, none⟩ = some (.string s0) := by
    have h := heap_alloc_new w (.cells #[.string key, .int .i64 num, .int .i64 n0, .string s0] 46)
    exact ⟨_, Lib.hid rfl, Lib.hid ((Below.refl _ _).alloc (Nat.le_refl _) _), cell_of_row _ _ 0 _ _ _ h, cell_of_row _ _ 1 _ _ _ h, cell_of_row _ _ 2 _ _ _ h, cell_of_row _ _ 3 _ _ _ h⟩
  go_enter Try.func8, Try.ntmps8
  go_upto_region 1 with fail
  rw [HW1.out]
  clear HW1
  refine wp_region_lin (S := (fun w' => w'.cell? ⟨w.heap.size, 0, none⟩ = some (.string key) ∧ w'.cell? ⟨w.heap.size, 1, none⟩ = some (.int .i64 num) ∧ w'.cell? ⟨w.heap.size, 2, none⟩ = some (.int .i64 n0) ∧ w'.cell? ⟨w.heap.size, 3, none⟩ = some (.string s0))) [(0, true), (1, true), (2, true), (3, true), (4, true), (5, true), (6, true), (7, true), (8, true), (9, true), (10, true), (11, true)] (by kernel_rfl) (by kernel_rfl) rfl (by kernel_rfl) ?_ (fun hHeld => ?_)
  · (try dsimp only); exact ⟨c0, c1, c2, c3⟩
  (refine wpL_calm (o := { dst := some 13, op := Go.Op.fieldAddr 46 (Go.Operand.tmp 1) 0, type := 0, pos := "law.go:54", after := #[], guard := none }) (v := ?_) rfl (Or.inl ⟨by rfl, ?_⟩) ?_; rotate_left; (focus (intro w hSw; (try dsimp only at hSw); go_simp; (try (with_reducible rfl)); done)); try simp only [Act.put, List.setIfInBounds_toArray, List.set_cons_zero, List.set_cons_succ])
  (refine wpL_calm (o := { dst := some 14, op := Go.Op.load 9 (Go.Operand.tmp 13), type := 9, pos := "law.go:54", after := #[{ on := 0, ground := Go.Ground.data }], guard := none }) (v := ?_) rfl (Or.inl ⟨by rfl, ?_⟩) ?_; rotate_left; (focus (intro w hSw; (try dsimp only at hSw); go_simp; (try (with_reducible rfl)); done)); try simp only [Act.put, List.setIfInBounds_toArray, List.set_cons_zero, List.set_cons_succ])
  (refine wpL_calm (o := { dst := some 15, op := Go.Op.fieldAddr 46 (Go.Operand.tmp 1) 1, type := 0, pos := "law.go:54", after := #[{ on := 8, ground := Go.Ground.gcOnly Go.Departure.lateStores }], guard := none }) (v := ?_) rfl (Or.inl ⟨by rfl, ?_⟩) ?_; rotate_left; (focus (intro w hSw; (try dsimp only at hSw); go_simp; (try (with_reducible rfl)); done)); try simp only [Act.put, List.setIfInBounds_toArray, List.set_cons_zero, List.set_cons_succ])
  (refine wpL_calm (o := { dst := some 16, op := Go.Op.load 3 (Go.Operand.tmp 15), type := 3, pos := "law.go:54", after := #[{ on := 2, ground := Go.Ground.data }, { on := 8, ground := Go.Ground.gcOnly Go.Departure.lateStores }], guard := none }) (v := ?_) rfl (Or.inl ⟨by rfl, ?_⟩) ?_; rotate_left; (focus (intro w hSw; (try dsimp only at hSw); go_simp; (try (with_reducible rfl)); done)); try simp only [Act.put, List.setIfInBounds_toArray, List.set_cons_zero, List.set_cons_succ])
  (refine wpL_calm (o := { dst := some 17, op := Go.Op.fieldAddr 46 (Go.Operand.tmp 1) 2, type := 0, pos := "law.go:54", after := #[{ on := 9, ground := Go.Ground.gcOnly Go.Departure.lateStores }], guard := none }) (v := ?_) rfl (Or.inl ⟨by rfl, ?_⟩) ?_; rotate_left; (focus (intro w hSw; (try dsimp only at hSw); go_simp; (try (with_reducible rfl)); done)); try simp only [Act.put, List.setIfInBounds_toArray, List.set_cons_zero, List.set_cons_succ])
  (refine wpL_calm (o := { dst := some 18, op := Go.Op.load 3 (Go.Operand.tmp 17), type := 3, pos := "law.go:54", after := #[{ on := 4, ground := Go.Ground.data }, { on := 9, ground := Go.Ground.gcOnly Go.Departure.lateStores }], guard := none }) (v := ?_) rfl (Or.inl ⟨by rfl, ?_⟩) ?_; rotate_left; (focus (intro w hSw; (try dsimp only at hSw); go_simp; (try (with_reducible rfl)); done)); try simp only [Act.put, List.setIfInBounds_toArray, List.set_cons_zero, List.set_cons_succ])
  (refine wpL_calm (o := { dst := some 19, op := Go.Op.fieldAddr 46 (Go.Operand.tmp 1) 3, type := 0, pos := "law.go:54", after := #[{ on := 10, ground := Go.Ground.gcOnly Go.Departure.lateStores }], guard := none }) (v := ?_) rfl (Or.inl ⟨by rfl, ?_⟩) ?_; rotate_left; (focus (intro w hSw; (try dsimp only at hSw); go_simp; (try (with_reducible rfl)); done)); try simp only [Act.put, List.setIfInBounds_toArray, List.set_cons_zero, List.set_cons_succ])
  (refine wpL_calm (o := { dst := some 20, op := Go.Op.load 9 (Go.Operand.tmp 19), type := 9, pos := "law.go:54", after := #[{ on := 6, ground := Go.Ground.data }, { on := 10, ground := Go.Ground.gcOnly Go.Departure.lateStores }], guard := none }) (v := ?_) rfl (Or.inl ⟨by rfl, ?_⟩) ?_; rotate_left; (focus (intro w hSw; (try dsimp only at hSw); go_simp; (try (with_reducible rfl)); done)); try simp only [Act.put, List.setIfInBounds_toArray, List.set_cons_zero, List.set_cons_succ])
  (refine wpL_calm (o := { dst := some 3, op := Go.Op.assign (Go.Operand.tmp 14), type := 9, pos := "law.go:54", after := #[{ on := 1, ground := Go.Ground.data }, { on := 0, ground := Go.Ground.phase }, { on := 1, ground := Go.Ground.phase }, { on := 2, ground := Go.Ground.textOnly Go.Departure.lateStores }, { on := 3, ground := Go.Ground.textOnly Go.Departure.lateStores }, { on := 4, ground := Go.Ground.textOnly Go.Departure.lateStores }, { on := 5, ground := Go.Ground.textOnly Go.Departure.lateStores }, { on := 6, ground := Go.Ground.textOnly Go.Departure.lateStores }, { on := 7, ground := Go.Ground.textOnly Go.Departure.lateStores }], guard := none }) (v := ?_) rfl (Or.inl ⟨by rfl, ?_⟩) ?_; rotate_left; (focus (intro w hSw; (try dsimp only at hSw); go_simp; (try (with_reducible rfl)); done)); try simp only [Act.put, List.setIfInBounds_toArray, List.set_cons_zero, List.set_cons_succ])
  (refine wpL_calm (o := { dst := some 4, op := Go.Op.assign (Go.Operand.tmp 16), type := 3, pos := "law.go:54", after := #[{ on := 3, ground := Go.Ground.data }, { on := 8, ground := Go.Ground.chain }, { on := 0, ground := Go.Ground.phase }, { on := 1, ground := Go.Ground.phase }, { on := 2, ground := Go.Ground.phase }, { on := 3, ground := Go.Ground.phase }, { on := 4, ground := Go.Ground.textOnly Go.Departure.lateStores }, { on := 5, ground := Go.Ground.textOnly Go.Departure.lateStores }, { on := 6, ground := Go.Ground.textOnly Go.Departure.lateStores }, { on := 7, ground := Go.Ground.textOnly Go.Departure.lateStores }, { on := 8, ground := Go.Ground.phase }], guard := none }) (v := ?_) rfl (Or.inl ⟨by rfl, ?_⟩) ?_; rotate_left; (focus (intro w hSw; (try dsimp only at hSw); go_simp; (try (with_reducible rfl)); done)); try simp only [Act.put, List.setIfInBounds_toArray, List.set_cons_zero, List.set_cons_succ])
  (refine wpL_calm (o := { dst := some 5, op := Go.Op.assign (Go.Operand.tmp 18), type := 3, pos := "law.go:54", after := #[{ on := 5, ground := Go.Ground.data }, { on := 9, ground := Go.Ground.chain }, { on := 0, ground := Go.Ground.phase }, { on := 1, ground := Go.Ground.phase }, { on := 2, ground := Go.Ground.phase }, { on := 3, ground := Go.Ground.phase }, { on := 4, ground := Go.Ground.phase }, { on := 5, ground := Go.Ground.phase }, { on := 6, ground := Go.Ground.textOnly Go.Departure.lateStores }, { on := 7, ground := Go.Ground.textOnly Go.Departure.lateStores }, { on := 8, ground := Go.Ground.phase }, { on := 9, ground := Go.Ground.phase }], guard := none }) (v := ?_) rfl (Or.inl ⟨by rfl, ?_⟩) ?_; rotate_left; (focus (intro w hSw; (try dsimp only at hSw); go_simp; (try (with_reducible rfl)); done)); try simp only [Act.put, List.setIfInBounds_toArray, List.set_cons_zero, List.set_cons_succ])
  (refine wpL_calm (o := { dst := some 6, op := Go.Op.assign (Go.Operand.tmp 20), type := 9, pos := "law.go:54", after := #[{ on := 7, ground := Go.Ground.data }, { on := 10, ground := Go.Ground.chain }, { on := 0, ground := Go.Ground.phase }, { on := 1, ground := Go.Ground.phase }, { on := 2, ground := Go.Ground.phase }, { on := 3, ground := Go.Ground.phase }, { on := 4, ground := Go.Ground.phase }, { on := 5, ground := Go.Ground.phase }, { on := 6, ground := Go.Ground.phase }, { on := 7, ground := Go.Ground.phase }, { on := 8, ground := Go.Ground.phase }, { on := 9, ground := Go.Ground.phase }, { on := 10, ground := Go.Ground.phase }], guard := none }) (v := ?_) rfl (Or.inl ⟨by rfl, ?_⟩) ?_; rotate_left; (focus (intro w hSw; (try dsimp only at hSw); go_simp; (try (with_reducible rfl)); done)); try simp only [Act.put, List.setIfInBounds_toArray, List.set_cons_zero, List.set_cons_succ])
  refine wpL_nil ?_
  refine NoPanic.normal ?_
  have HB := Lib.hid HB1.out.drew
  clear hHeld c0 c1 c2 c3 HB1
  generalize World.drew w1 = wd at *
  go_wp2_with fail
  refine (CK.out _).mono ?_
  rintro e w2 ⟨kg, rfl, hK, b2⟩
  have HK2 := Lib.hid hK
  have B2 := Lib.hid (HB.out.trans (b2.mono HB.out.size))
  clear hK b2 HB CK
  go_upto_if 31 with fail
  all_goals
    go_cut [5] from 26 to 31 (fun s5 wx => ∃ n : Int, s5 = .int .i64 n ∧ Hid (wx = w2))
    case first =>
      go_wp2_with fail
      all_goals
        go_meet
        exact ⟨_, rfl, Lib.hid rfl⟩
    case rest =>
    as_aux_lemma =>
    obtain ⟨n, rfl, hw⟩ := hcut
    obtain rfl := hw.out
    go_upto_if 34 with fail
    go_cut [6] from 32 to 36 (fun s6 wx => ∃ s : ByteArray, s6 = .string s ∧ s.size ≤ 100 ∧ Hid (wx = wc))
    case first =>
      by_cases hA : 100 < s0.size
      · have h1 : (100 : Int) < s0.size := by omega
        have h2 : (100 : Int) ≤ s0.size := by omega
        go_wp2_with fail
        go_meet
        exact ⟨_, rfl, by rw [ByteArray.size_extract]; omega, Lib.hid rfl⟩
      · have h1 : ¬ (100 : Int) < s0.size := by omega
        go_wp2_with fail
        go_meet
        exact ⟨_, rfl, by omega, Lib.hid rfl⟩
    case rest =>
    as_aux_lemma =>
    obtain ⟨s, rfl, hs, hw⟩ := hcut
    obtain rfl := hw.out
    clear hw
    cases hn : okN num with
    | false =>
      rw [hn] at CR
      have CS := Lib.hid (fun kg w => st_arg kg num n w hn)
      have CC := Lib.hid (fun kg w => cr_arg kg num s w hn)
      go_wp2_with fail
      refine (CS.out kg _).mono ?_
      rintro e w' ⟨rfl, rfl⟩
      go_wp2_with fail
      refine (CC.out kg _).mono ?_
      rintro e w' ⟨rfl, rfl⟩
      go_wp2_with fail
      refine (CR.out _).mono ?_
      rintro e w' ⟨rfl, rfl⟩
      go_wp2_with fail
      refine (awake05 _).mono ?_
      rintro e w3 ⟨rfl, b3⟩
      have B3 := Lib.hid (below_trans B2.out b3)
      go_wp2_with fail
      go_ret
      exact ⟨by first | rfl | simp, B3.out⟩
    | true =>
      rw [hn] at CR
      have CC := Lib.hid (fun kg w hK => cr_ok kg W num s w hn (by omega) hK)
      have CT := Lib.hid (fun w => CST.out s.size w hn (by omega))
      have CX := Lib.hid (fun w => rcry_any W num s w (by omega))
      generalize cryB W num s = cy at *
      generalize streamB W num s.size = st at *
      by_cases hbig : n < 0 ∨ 4096 < n
      · have CS := Lib.hid (fun kg w => st_big kg num n w hn hbig)
        clear CST
        rcases hbig with h | h
        · go_wp2_with fail
          refine (CS.out kg _).mono ?_
          rintro e w' ⟨rfl, rfl⟩
          go_wp2_with fail
          refine (CC.out kg _ HK2).mono ?_
          rintro e w3 ⟨rfl, b3⟩
          have B3 := Lib.hid (below_trans B2.out b3)
          clear B2 b3
          go_wp2_with fail
          refine (CR.out _).mono ?_
          rintro e w' ⟨rfl, rfl⟩
          go_wp2_with fail
          refine (CT.out _).mono ?_
          rintro e w4 ⟨rfl, b4⟩
          have B4 := Lib.hid (below_trans B3.out b4)
          clear B3 b4
          go_wp2_with fail
          refine (CX.out _).mono ?_
          rintro e w5 ⟨rfl, b5⟩
          have B5 := Lib.hid (below_trans B4.out b5)
          clear B4 b5
          go_wp2_with fail
          refine (awake05 _).mono ?_
          rintro e w6 ⟨rfl, b6⟩
          have B6 := Lib.hid (below_trans B5.out b6)
          go_wp2_with fail
          go_ret
          exact ⟨by first | rfl | simp, B6.out⟩
        · have h0 : ¬ n < 0 := by omega
          go_wp2_with fail
          refine (CS.out kg _).mono ?_
          rintro e w' ⟨rfl, rfl⟩
          go_wp2_with fail
          refine (CC.out kg _ HK2).mono ?_
          rintro e w3 ⟨rfl, b3⟩
          have B3 := Lib.hid (below_trans B2.out b3)
          clear B2 b3
          go_wp2_with fail
          refine (CR.out _).mono ?_
          rintro e w' ⟨rfl, rfl⟩
          go_wp2_with fail
          refine (CT.out _).mono ?_
          rintro e w4 ⟨rfl, b4⟩
          have B4 := Lib.hid (below_trans B3.out b4)
          clear B3 b4
          go_wp2_with fail
          refine (CX.out _).mono ?_
          rintro e w5 ⟨rfl, b5⟩
          have B5 := Lib.hid (below_trans B4.out b5)
          clear B4 b5
          go_wp2_with fail
          refine (awake05 _).mono ?_
          rintro e w6 ⟨rfl, b6⟩
          have B6 := Lib.hid (below_trans B5.out b6)
          go_wp2_with fail
          go_ret
          exact ⟨by first | rfl | simp, B6.out⟩
      · obtain ⟨k, rfl, hk⟩ : ∃ k : Nat, n = (k : Int) ∧ k ≤ 4096 := ⟨n.toNat, by omega, by omega⟩
        have CS := Lib.hid (fun kg w hK => st_ok kg W num k w hn hk hK)
        have CT2 := Lib.hid (fun w => CST.out k w hn hk)
        generalize streamB W num k = sk at *
        have h0 : ¬ (k : Int) < 0 := by omega
        have h1 : ¬ (4096 : Int) < (k : Int) := by omega
        clear CST hbig
        go_wp2_with fail
        refine (CS.out kg _ HK2).mono ?_
        rintro e w2' ⟨rfl, b2⟩
        have HK3 := Lib.hid (HK2.out.below b2)
        have B2' := Lib.hid (below_trans B2.out b2)
        clear b2
        go_wp2_with fail
        refine (CC.out kg _ HK3).mono ?_
        rintro e w3 ⟨rfl, b3⟩
        have B3 := Lib.hid (below_trans B2'.out b3)
        clear B2' b3
        go_wp2_with fail
        refine (CR.out _).mono ?_
        rintro e w' ⟨rfl, rfl⟩
        go_wp2_with fail
        refine (CT.out _).mono ?_
        rintro e w4 ⟨rfl, b4⟩
        have B4 := Lib.hid (below_trans B3.out b4)
        clear B3 b4
        go_wp2_with fail
        refine (CX.out _).mono ?_
        rintro e w5 ⟨rfl, b5⟩
        have B5 := Lib.hid (below_trans B4.out b5)
        clear B4 b5
        go_wp2_with fail
        refine (awake05 _).mono ?_
        rintro e w6 ⟨rfl, b6⟩
        have B6 := Lib.hid (below_trans B5.out b6)
        clear B5 b6
        go_wp2_with fail
        refine (CT2.out _).mono ?_
        rintro e w7 ⟨rfl, b7⟩
        have B7 := Lib.hid (below_trans B6.out b7)
        go_wp2_with fail
        go_ret
        exact ⟨by first | rfl | simp, B7.out⟩
set_option maxRecDepth 100000 in
theorem ctrStreams_walk {H : Type} {enc : TypeId × Value → H} {r : Reach} {b0 : Nat} (v : Value) (d : DataW H) (p : List MemPlace) (w : World)
    (hok : Value.okWide Try.prog w r b0 46 v) (h : DataW.Trod enc Try.prog w 0 (fun _ => true) true 46 v d p) :
    Calls Try.prog 8 #[v] w fun e w' => e = .returned (.bool true) ∧ Below w.heap.size w w' := by
  obtain ⟨a, n, m, s, rfl⟩ := open_four5 hok h
  exact ctrStreams_body a n m s w
end Go.Proofs.Ytbbanhjcchnhpaa
