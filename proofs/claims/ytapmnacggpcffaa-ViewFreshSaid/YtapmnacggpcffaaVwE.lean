/- Package view: Differ. -/
import Derived.Test.YtapmnacggpcffaaVwD
namespace Go.Proofs.Ytapmnacggpcffaa
open Go.RowKit Go.Deep
set_option linter.unusedVariables false
set_option linter.unusedSimpArgs false
theorem pu_eq33 {p q : (Int × ByteArray)} : ((p.1 == q.1) && (p.2.toList == q.2.toList)) = decide (p = q) := by
  obtain ⟨a, s⟩ := p
  obtain ⟨b, t⟩ := q
  rw [Bool.eq_iff_iff]
  simp only [Bool.and_eq_true, beq_iff_eq, decide_eq_true_eq, Prod.mk.injEq]
  constructor
  · rintro ⟨h1, h2⟩
    refine ⟨h1, ?_⟩
    obtain ⟨⟨s⟩⟩ := s
    obtain ⟨⟨t⟩⟩ := t
    simpa [ByteArray.toList_eq] using h2
  · rintro ⟨rfl, rfl⟩
    exact ⟨rfl, rfl⟩
theorem toList_eq33 {a b : ByteArray} (h : (a.toList == b.toList) = true) : a = b := by
  have e := pu_eq33 (p := ((0 : Int), a)) (q := (0, b))
  rw [h] at e
  have e2 : decide (((0 : Int), a) = (0, b)) = true := by rw [← e]; rfl
  exact (Prod.mk.inj (of_decide_eq_true e2)).2
theorem info_int33 : (Try.prog.info? 3).map (fun i => (i.zero, i.size, i.bytes)) = some (some (.int .i64 0), 1, 8) := by kernel_rfl
/-- An own row of ints. -/
def OwnI (N : Nat) (w : World) (v : Value) (X : List Int) : Prop := w.ownsRow N 3 1 v X.length (X.map (Value.int .i64))
theorem OwnI.nil (N : Nat) (w : World) : OwnI N w (.slice none 0 0) [] := World.ownsRow_nil _ _ _ _
def partP (s : ByteArray) (slow : Bool) (i : Nat) : ByteArray := if slow = true ∧ i = 0 then (blkP s i).extract 0 32 else blkP s i
def difP (a b : ByteArray) (slow : Bool) (i : Nat) : Bool := !((partP a slow i).toList == (partP b slow i).toList)
/-- Where two images differ, among the first n blocks. -/
def difL (a b : ByteArray) (slow : Bool) (n : Nat) : List Int := ((List.range n).filter (difP a b slow)).map (fun (i : Nat) => (i : Int))
theorem difL_len (a b : ByteArray) (slow : Bool) (n : Nat) : (difL a b slow n).length ≤ n := by
  unfold difL
  rw [List.length_map]
  have := List.length_filter_le (difP a b slow) (List.range n)
  rwa [List.length_range] at this
theorem difL_no (a b : ByteArray) (slow : Bool) (i : Nat) (h : difP a b slow i = false) : difL a b slow (i + 1) = difL a b slow i := by
  unfold difL
  rw [List.range_succ, List.filter_append, List.filter_cons_of_neg (by simpa using h)]
  simp
theorem difL_yes (a b : ByteArray) (slow : Bool) (i : Nat) (h : difP a b slow i = true) : difL a b slow (i + 1) = difL a b slow i ++ [(i : Int)] := by
  unfold difL
  rw [List.range_succ, List.filter_append, List.filter_cons_of_pos (by simpa using h)]
  simp
def DifR (a b : ByteArray) (slow : Bool) (w : World) (e : Ending) (w' : World) : Prop := ∃ p c, e = .returned (.tuple #[.slice p (difL a b slow 288).length c, .int .i64 0]) ∧ OwnI w.heap.size w' (.slice p (difL a b slow 288).length c) (difL a b slow 288) ∧ Below w.heap.size w w'
set_option maxRecDepth 100000 in
set_option maxHeartbeats 4000000 in
theorem differ_no (a b : ByteArray) (slow : Bool) (w : World) (h : ¬ (a.size = 18432 ∧ b.size = 18432)) : Calls Try.prog 11 #[.string a, .string b, .bool slow] w fun e w' => e = .returned (.tuple #[.slice none 0 0, .int .i64 6]) ∧ w = w' := by
  have CA := Lib.hid (isImage_any a w)
  have CB := Lib.hid (isImage_any b w)
  by_cases ha : a.size = 18432
  · rw [decide_eq_true ha] at CA
    rw [decide_eq_false (fun hb => h ⟨ha, hb⟩)] at CB
    clear h ha
    go_enter Try.func11, Try.ntmps11
    go_wp2_with fail
    refine CA.out.mono ?_
    rintro e w' ⟨rfl, rfl⟩
    go_wp2_with fail
    refine CB.out.mono ?_
    rintro e w' ⟨rfl, rfl⟩
    go_wp2_with fail
    go_ret2
    exact ⟨rfl, rfl⟩
  · rw [decide_eq_false ha] at CA
    clear h ha
    go_enter Try.func11, Try.ntmps11
    go_wp2_with fail
    refine CA.out.mono ?_
    rintro e w' ⟨rfl, rfl⟩
    go_wp2_with fail
    go_ret2
    exact ⟨rfl, rfl⟩
set_option maxRecDepth 100000 in
set_option maxHeartbeats 8000000 in
theorem differ_any (a b : ByteArray) (slow : Bool) (w : World) (ha : a.size = 18432) (hb : b.size = 18432) : Calls Try.prog 11 #[.string a, .string b, .bool slow] w (DifR a b slow w) := by
  obtain ⟨i0, hi0, hz0, hz1, hz2⟩ := info_parts33 info_int33
  have CA := Lib.hid (isImage_any a w)
  have CB := Lib.hid (isImage_any b w)
  rw [decide_eq_true ha] at CA
  rw [decide_eq_true hb] at CB
  go_enter Try.func11, Try.ntmps11
  go_wp2_with fail
  refine CA.out.mono ?_
  rintro e w' ⟨rfl, rfl⟩
  go_wp2_with fail
  refine CB.out.mono ?_
  rintro e w' ⟨rfl, rfl⟩
  clear CA CB
  go_wp2_with fail
  go_loopw [8, 20] (fun s8 s20 wi => ∃ (i : Nat) (M : List Int), s20 = .int .i64 (i : Int) ∧ i ≤ 288 ∧ (∃ a c, s8 = .slice a M.length c) ∧ M.length ≤ i ∧ Hid (difL a b slow i = M) ∧ Hid (OwnI w.heap.size wi s8 M) ∧ Hid (Below w.heap.size w wi)) (fun _ s20 _ => 288 - (intOf s20).toNat)
  case atStart => exact ⟨0, [], rfl, by omega, ⟨_, _, rfl⟩, by simp, Lib.hid rfl, Lib.hid (OwnI.nil _ _), Lib.hid (Below.refl _ _)⟩
  case round =>
    obtain ⟨i, M, rfl, hi, ⟨a8, c8, rfl⟩, hM, HM, HO, HB⟩ := hrel
    by_cases hlt : i < 288
    · as_aux_lemma =>
      have hli : (i : Int) < 288 := by omega
      have C1 := Lib.hid (block_any a i wr ha hlt)
      have C2 := Lib.hid (block_any b i wr hb hlt)
      have H1 := Lib.hid (difL_no a b slow i)
      have H2 := Lib.hid (difL_yes a b slow i)
      rw [HM.out] at H1 H2
      unfold difP at H1 H2
      have hxs := blkP_size ha hlt
      have hys := blkP_size hb hlt
      have HP : Hid (∀ s, (slow = true ∧ i = 0 → partP s slow i = (blkP s i).extract 0 32) ∧ (¬ (slow = true ∧ i = 0) → partP s slow i = blkP s i)) := Lib.hid (fun s => ⟨fun h => if_pos h, fun h => if_neg h⟩)
      have HO3 : Hid (wr.ownsRow w.heap.size 3 1 (.slice a8 M.length c8) M.length (M.map (Value.int .i64))) := Lib.hid HO.out
      have HB3 := HB
      have hb3 := HB3.out.size
      clear HM HO HB
      go_wp2_with fail
      refine C1.out.mono ?_
      rintro e w' ⟨rfl, rfl⟩
      go_wp2_with fail
      refine C2.out.mono ?_
      rintro e w3 ⟨rfl, rfl⟩
      clear C1 C2
      by_cases hc : slow = true ∧ i = 0
      · as_aux_lemma =>
        have e1 := (HP.out a).1 hc
        have e2 := (HP.out b).1 hc
        rw [e1, e2] at H1 H2
        obtain ⟨rfl, rfl⟩ := hc
        generalize blkP a 0 = xa at *
        generalize blkP b 0 = xb at *
        obtain ⟨X, hX⟩ : ∃ X, xa.extract 0 32 = X := ⟨_, rfl⟩
        obtain ⟨Y, hY⟩ : ∃ Y, xb.extract 0 32 = Y := ⟨_, rfl⟩
        rw [hX, hY] at H1 H2
        clear e1 e2 HP
        go_upto_region 9 with fail
        refine wp_region_lin (S := (fun _ => True)) [(0, true), (1, true), (2, true), (3, true), (4, true), (5, true)] (by kernel_rfl) (by kernel_rfl) rfl (by kernel_rfl) ?_ (fun hHeld => ?_)
        · (try dsimp only); try exact trivial
        (refine wpL_calm (o := { dst := some 34, op := Go.Op.move (Go.Operand.tmp 10), type := 9, pos := "view.go:68", after := #[], guard := none }) (v := ?_) rfl (Or.inl ⟨by rfl, ?_⟩) ?_; rotate_left; (focus (intro w hSw; (try dsimp only at hSw); go_simp; (try (with_reducible rfl)); done)); try simp only [Act.put, List.setIfInBounds_toArray, List.set_cons_zero, List.set_cons_succ])
        (refine wpL_calm (o := { dst := some 35, op := Go.Op.slice 9 (Go.Operand.tmp 34) none (some (Go.Operand.const (Go.Value.int Go.IntKind.i64 32))) none, type := 9, pos := "view.go:68", after := #[{ on := 0, ground := Go.Ground.data }], guard := none }) (v := ?_) rfl (Or.inl ⟨by rfl, ?_⟩) ?_; rotate_left; (focus (intro w hSw; (try dsimp only at hSw); go_simp; (try (with_reducible rfl)); done)); try simp only [Act.put, List.setIfInBounds_toArray, List.set_cons_zero, List.set_cons_succ])
        (refine wpL_calm (o := { dst := some 36, op := Go.Op.move (Go.Operand.tmp 11), type := 9, pos := "view.go:68", after := #[], guard := none }) (v := ?_) rfl (Or.inl ⟨by rfl, ?_⟩) ?_; rotate_left; (focus (intro w hSw; (try dsimp only at hSw); go_simp; (try (with_reducible rfl)); done)); try simp only [Act.put, List.setIfInBounds_toArray, List.set_cons_zero, List.set_cons_succ])
        (refine wpL_calm (o := { dst := some 37, op := Go.Op.slice 9 (Go.Operand.tmp 36) none (some (Go.Operand.const (Go.Value.int Go.IntKind.i64 32))) none, type := 9, pos := "view.go:68", after := #[{ on := 2, ground := Go.Ground.data }], guard := none }) (v := ?_) rfl (Or.inl ⟨by rfl, ?_⟩) ?_; rotate_left; (focus (intro w hSw; (try dsimp only at hSw); go_simp; (try (with_reducible rfl)); done)); try simp only [Act.put, List.setIfInBounds_toArray, List.set_cons_zero, List.set_cons_succ])
        (refine wpL_calm (o := { dst := some 10, op := Go.Op.assign (Go.Operand.tmp 35), type := 9, pos := "view.go:68", after := #[{ on := 1, ground := Go.Ground.data }, { on := 0, ground := Go.Ground.phase }, { on := 1, ground := Go.Ground.phase }, { on := 2, ground := Go.Ground.textOnly Go.Departure.lateStores }, { on := 3, ground := Go.Ground.textOnly Go.Departure.lateStoresUnsure }], guard := none }) (v := ?_) rfl (Or.inl ⟨by rfl, ?_⟩) ?_; rotate_left; (focus (intro w hSw; (try dsimp only at hSw); go_simp; (try (with_reducible rfl)); done)); try simp only [Act.put, List.setIfInBounds_toArray, List.set_cons_zero, List.set_cons_succ])
        (refine wpL_calm (o := { dst := some 11, op := Go.Op.assign (Go.Operand.tmp 37), type := 9, pos := "view.go:68", after := #[{ on := 3, ground := Go.Ground.data }, { on := 4, ground := Go.Ground.chain }, { on := 0, ground := Go.Ground.phase }, { on := 1, ground := Go.Ground.phase }, { on := 2, ground := Go.Ground.phase }, { on := 3, ground := Go.Ground.phase }, { on := 4, ground := Go.Ground.phase }], guard := none }) (v := ?_) rfl (Or.inl ⟨by rfl, ?_⟩) ?_; rotate_left; (focus (intro w hSw; (try dsimp only at hSw); go_simp; (try (with_reducible rfl)); done)); try simp only [Act.put, List.setIfInBounds_toArray, List.set_cons_zero, List.set_cons_succ])
        refine wpL_nil ?_
        refine NoPanic.normal ?_
        have HO3 : Hid (wr.drew.ownsRow w.heap.size 3 1 (.slice a8 M.length c8) M.length (M.map (Value.int .i64))) := Lib.hid HO3.out
        have HB3 := Lib.hid HB3.out.drew
        have hb3 := HB3.out.size
        generalize wr.drew = w3 at *
        obtain ⟨bb, hbb⟩ : ∃ bb, (!(X.toList == Y.toList)) = bb := ⟨_, rfl⟩
        rw [hbb] at H1 H2
        go_upto_region 10 with fail
        cases bb
        · have H3 := Lib.hid (H1.out rfl)
          clear H1 H2
          have hq : (X.toList == Y.toList) = true := by simpa using hbb
          obtain rfl : X = Y := toList_eq33 hq
          clear hbb hq
          go_wp2_with fail
          go_roundw
          case rel => exact ⟨0 + 1, M, by first | rfl | go_num, by omega, ⟨_, _, rfl⟩, by omega, H3, HO3, HB3⟩
          case measure => (simp [intOf]; try omega)
        · have H3 := Lib.hid (H2.out rfl)
          clear H1 H2
          have hq : (X.toList == Y.toList) = false := by simpa using hbb
          have hXY : ¬ X = Y := fun e => by rw [e] at hq; simp at hq
          go_wp2_with (at_builtin; refine wpList_append_own _ rfl _ _ 39 rfl w.heap.size 3 i0 (.int .i64 0) 1 8 Try.underlying39 hi0 hz0 hz1 hz2 rfl (by decide) _ M.length (M.map (Value.int .i64)) rfl (HO3.out.alloc _) ⟨w3.heap.size, 0, none⟩ 1 1 [.int .i64 0] rfl rfl (cell_one_new _ _ _) (fun u hu => by simp at hu; subst hu; rfl) (by unfold maxLen; omega) (by omega) (by simp; omega) ?_)
          intro v' w5 hown hg5 _
          have HB5 := Lib.hid ((HB3.out.alloc hb3 _).grown hg5 (by simp; omega) (fun j e => (HO3.out.lt j e).1))
          have HO5 : Hid (OwnI w.heap.size w5 v' (M ++ [0])) := Lib.hid (by unfold OwnI; rw [List.length_append, List.map_append]; exact hown)
          obtain ⟨a', c', rfl⟩ := own_sl33 HO5.out
          clear hown hg5 HO3 HB3
          go_wp2_with fail
          go_roundw
          case rel => exact ⟨0 + 1, M ++ [0], by first | rfl | go_num, by omega, ⟨_, _, rfl⟩, by (rw [List.length_append]; show M.length + 1 ≤ 0 + 1; omega), H3, HO5, HB5⟩
          case measure => (simp [intOf]; try omega)
      · as_aux_lemma =>
        have e1 := (HP.out a).2 hc
        have e2 := (HP.out b).2 hc
        rw [e1, e2] at H1 H2
        generalize blkP a i = X at *
        generalize blkP b i = Y at *
        have hcc : slow = false ∨ (slow = true ∧ ((i : Int) == 0) = false) := by
          cases slow
          · exact Or.inl rfl
          · refine Or.inr ⟨rfl, ?_⟩
            have : ¬ i = 0 := fun e => hc ⟨rfl, e⟩
            simp; omega
        clear e1 e2 HP
        obtain ⟨w3, rfl⟩ : ∃ w3, w3 = wr := ⟨_, rfl⟩
        rcases hcc with rfl | ⟨rfl, hi9⟩
        all_goals as_aux_lemma =>
          obtain ⟨bb, hbb⟩ : ∃ bb, (!(X.toList == Y.toList)) = bb := ⟨_, rfl⟩
          rw [hbb] at H1 H2
          go_upto_region 10 with fail
          cases bb
          · have H3 := Lib.hid (H1.out rfl)
            clear H1 H2
            have hq : (X.toList == Y.toList) = true := by simpa using hbb
            obtain rfl : X = Y := toList_eq33 hq
            clear hbb hq
            go_wp2_with fail
            go_roundw
            case rel => exact ⟨i + 1, M, by go_num, by omega, ⟨_, _, rfl⟩, by omega, H3, HO3, HB3⟩
            case measure => (simp [intOf]; try omega)
          · have H3 := Lib.hid (H2.out rfl)
            clear H1 H2
            have hq : (X.toList == Y.toList) = false := by simpa using hbb
            have hXY : ¬ X = Y := fun e => by rw [e] at hq; simp at hq
            go_wp2_with (at_builtin; refine wpList_append_own _ rfl _ _ 39 rfl w.heap.size 3 i0 (.int .i64 0) 1 8 Try.underlying39 hi0 hz0 hz1 hz2 rfl (by decide) _ M.length (M.map (Value.int .i64)) rfl (HO3.out.alloc _) ⟨w3.heap.size, 0, none⟩ 1 1 [.int .i64 (i : Int)] rfl rfl (cell_one_new _ _ _) (fun u hu => by simp at hu; subst hu; rfl) (by unfold maxLen; omega) (by omega) (by simp; omega) ?_)
            intro v' w5 hown hg5 _
            have HB5 := Lib.hid ((HB3.out.alloc hb3 _).grown hg5 (by simp; omega) (fun j e => (HO3.out.lt j e).1))
            have HO5 : Hid (OwnI w.heap.size w5 v' (M ++ [(i : Int)])) := Lib.hid (by unfold OwnI; rw [List.length_append, List.map_append]; exact hown)
            obtain ⟨a', c', rfl⟩ := own_sl33 HO5.out
            clear hown hg5 HO3 HB3
            go_wp2_with fail
            go_roundw
            case rel => exact ⟨i + 1, M ++ [(i : Int)], by go_num, by omega, ⟨_, _, rfl⟩, by simp; omega, H3, HO5, HB5⟩
            case measure => (simp [intOf]; try omega)
    · as_aux_lemma =>
      have hli : ¬ (i : Int) < 288 := by omega
      obtain rfl : i = 288 := by omega
      obtain rfl : difL a b slow 288 = M := HM.out
      go_wp2_with fail
      go_ret2
      exact ⟨_, _, rfl, HO.out, HB.out⟩
end Go.Proofs.Ytapmnacggpcffaa
