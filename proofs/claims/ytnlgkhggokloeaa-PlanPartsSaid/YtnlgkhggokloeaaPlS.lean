/- The law PlanApplies. -/
import Derived.Test.YtnlgkhggokloeaaPlR
namespace Go.Proofs.Ytnlgkhggokloeaa
open Go.ChangeShapes Go.WideShapes Go.Deep Go.RowKit
set_option linter.unusedVariables false
set_option linter.unusedSimpArgs false
theorem OwnI.at {w : World} {N c : Nat} {a : Option Addr} {X : List Int} (h : OwnI N w (.slice a X.length c) X) : IntsAt w a X.length X := (IntsAt.own h).2
theorem OwnI.below {w w' : World} {N : Nat} {v : Value} {X : List Int} (h : OwnI N w v X) (b : Below w.heap.size w w') : OwnI N w' v X := by
  unfold OwnI at h ⊢
  refine ⟨h.1, ?_⟩
  rcases h.2 with h | ⟨g2, cap, cur, rfl, q1, q2, q3⟩
  · exact Or.inl h
  · exact Or.inr ⟨g2, cap, cur, rfl, q1, (b.block g2 (Array.getElem?_eq_some_iff.1 q2).1).trans q2, q3⟩
theorem blk_slice (x : ByteArray) (k : Nat) : x.extract (64 * k) (64 * k + 64) = blkP x k := by
  unfold blkP
  rw [show 64 * k = k * 64 by omega, show k * 64 + 64 = (k + 1) * 64 by omega]
theorem mis_len (s : ByteArray) (L : List Pu) : (misA s L).length ≤ L.length := by
  unfold misA
  split
  · unfold misL
    rw [List.length_map]
    exact List.length_filter_le _ _
  · simp
set_option maxRecDepth 100000 in
set_option maxHeartbeats 16000000 in
theorem planApplies_any (s : ByteArray) (odd : Bool) (ao : Option Addr) (c : Nat) (L : List Pu) (w : World) (hs : s.size ≤ 1000000000000000) (hat : PuAt w ao L) (hn : L.length ≤ maxLen) : Calls Try.prog 4 #[.string s, .bool odd, .slice ao L.length c] w fun e w' => e = .returned (.bool true) ∧ Below w.heap.size w w' := by
  have HAT := Lib.hid hat
  have CL := Lib.hid (light_any ao c L w hat (by unfold maxLen at hn; omega))
  obtain ⟨n, hnn⟩ : ∃ n, Hid (L.length = n) := ⟨_, Lib.hid rfl⟩
  rw [hnn.out] at hn CL ⊢
  clear hat
  go_enter Try.func4, Try.ntmps4
  go_wp2_with fail
  refine CL.out.mono ?_
  rintro e w1 ⟨b, rfl, HL, hb1⟩
  have HB1 := Lib.hid hb1
  clear CL hb1
  cases b
  · as_aux_lemma =>
    go_wp2_with fail
    refine (awake32 w1).mono ?_
    rintro e w2 ⟨rfl, hb2⟩
    have HB2 := Lib.hid (HB1.out.trans (hb2.mono HB1.out.size))
    go_wp2_with fail
    go_ret
    exact ⟨rfl, HB2.out⟩
  · as_aux_lemma =>
    have hn80 : n < 80 := by have := (HL.out rfl).1; rw [hnn.out] at this; exact this
    clear HL hn
    have CI := Lib.hid (image_any s odd w1 hs)
    have hxs := imgO_size s odd
    generalize imgO s odd = x at *
    clear hs
    go_wp2_with fail
    refine CI.out.mono ?_
    rintro e w2 ⟨rfl, hb2⟩
    have HB2 := Lib.hid (HB1.out.trans (hb2.mono HB1.out.size))
    have CA := Lib.hid (apply_any x ao c L w2 (by omega) (HAT.out.below HB2.out) (by rw [hnn.out]; omega))
    obtain ⟨E, HE⟩ : ∃ E, Hid (errA x L = E) := ⟨_, Lib.hid rfl⟩
    obtain ⟨T, HT⟩ : ∃ T, Hid (appA x L = T) := ⟨_, Lib.hid rfl⟩
    obtain ⟨X, HX⟩ : ∃ X, Hid (misA x L = X) := ⟨_, Lib.hid rfl⟩
    rw [hnn.out, HE.out, HT.out] at CA
    clear CI HB1 hb2
    go_wp2_with fail
    refine CA.out.mono ?_
    rintro e w3 ⟨rfl, hb3⟩
    have HB3 := Lib.hid (HB2.out.trans (hb3.mono HB2.out.size))
    have CM := Lib.hid (missing_any x ao c L w3 (by omega) (HAT.out.below HB3.out) (by rw [hnn.out]; omega))
    unfold MisR at CM
    rw [hnn.out, HE.out, HX.out] at CM
    clear CA HB2 hb3
    go_wp2_with fail
    refine CM.out.mono ?_
    rintro e w4 ⟨am, cm, rfl, hown, hb4⟩
    have HB4 := Lib.hid (HB3.out.trans (hb4.mono HB3.out.size))
    have HO4 := Lib.hid hown
    have CR := Lib.hid (rright32_any x ao c L w4 (by omega) (HAT.out.below HB4.out) (by rw [hnn.out]; omega))
    rw [hnn.out, HE.out] at CR
    obtain ⟨m, hmm⟩ : ∃ m, Hid (X.length = m) := ⟨_, Lib.hid rfl⟩
    have hm80 : m ≤ 80 := by have := mis_len x L; rw [HX.out, hmm.out, hnn.out] at this; omega
    rw [hmm.out]
    clear CM HB3 hb4 hown
    go_wp2_with fail
    refine CR.out.mono ?_
    rintro e w5 ⟨rfl, hb5⟩
    have HB5 := Lib.hid (HB4.out.trans (hb5.mono HB4.out.size))
    have HO5 := Lib.hid (HO4.out.below hb5)
    clear CR HB4 hb5 HO4
    by_cases hE : E = 0
    · as_aux_lemma =>
      subst hE
      obtain ⟨hx, hok⟩ := errA_zero HE.out
      have HP := Lib.hid hok
      have HMX : Hid (misL x L = X) := Lib.hid (by rw [← HX.out]; unfold misA; rw [if_pos HE.out])
      have HTA : Hid (T = catF (layF (blkP x) L)) := Lib.hid (by rw [← HT.out]; exact app_eq hx hok)
      obtain ⟨i0, hi0, hz0, hz1, hz2⟩ := info_partsO info_i64O
      clear hok HX HT
      go_wp2_with fail
      go_loopw [13, 14] (fun s7 s18 wi => ∃ (i : Nat) (M : List Int), s18 = .int .i64 (i : Int) ∧ i ≤ n ∧ (∃ a c, s7 = .slice a M.length c) ∧ M.length ≤ i ∧ Hid (misL x (L.take i) = M) ∧ Hid (OwnI w5.heap.size wi s7 M) ∧ Hid (Below w5.heap.size w5 wi)) (fun _ s18 _ => n - (intOf s18).toNat)
      case atStart => exact ⟨0, [], rfl, by omega, ⟨_, _, rfl⟩, by simp, Lib.hid rfl, Lib.hid (OwnI.nil _ _), Lib.hid (Below.refl _ _)⟩
      case round =>
        obtain ⟨i, M, rfl, hi, ⟨a7, c7, rfl⟩, hM, HM, HO, HB⟩ := hrel
        by_cases hlt : i < n
        · as_aux_lemma =>
          have hli : (i : Int) < (n : Int) := by omega
          have hil : i < L.length := by rw [hnn.out]; exact hlt
          obtain ⟨g, o, rfl, hg, hc⟩ := HAT.out (by omega)
          have HB0 := HB5.out.trans (HB.out.mono HB5.out.size)
          have c0 := (HB0.cell (p := ⟨g, o + i * 2, none⟩) hg).trans (hc i hil).1
          have c1 := (HB0.cell (p := ⟨g, o + i * 2 + 1, none⟩) hg).trans (hc i hil).2
          obtain ⟨h0, h287, _⟩ := okP_zero (HP.out _ (List.getElem_mem hil))
          have H1 := Lib.hid (misL_no x L i hil)
          have H2 := Lib.hid (misL_yes x L i hil)
          rw [HM.out] at H1 H2
          clear hc HM HB0
          generalize L[i] = z at *
          obtain ⟨y, t⟩ := z
          have h0 : 0 ≤ y := h0
          have h287 : y ≤ 287 := h287
          obtain ⟨k, rfl⟩ : ∃ k : Nat, y = (k : Int) := ⟨y.toNat, by omega⟩
          have c0 : wr.cell? ⟨g, o + i * 2, none⟩ = some (.int .i64 (k : Int)) := c0
          have c1 : wr.cell? ⟨g, o + i * 2 + 1, none⟩ = some (.string t) := c1
          have HMP : Hid (misP x ((k : Int), t) = !((blkP x k).toList == t.toList)) := Lib.hid (by unfold misP; simp)
          rw [HMP.out] at H1 H2
          have e1 : ((64 : Int) * (k : Int)).toNat = 64 * k := by omega
          have e2 : ((64 : Int) * (k : Int) + 64).toNat = 64 * k + 64 := by omega
          have d0 : (0 : Int) ≤ 64 * (k : Int) := by omega
          have d1 : (64 : Int) * (k : Int) ≤ 18432 := by omega
          have d2 : (0 : Int) ≤ 64 * (k : Int) + 64 := by omega
          have d3 : (64 : Int) * (k : Int) + 64 ≤ 18432 := by omega
          have d4 : (64 : Int) * (k : Int) ≤ 64 * (k : Int) + 64 := by omega
          have hwr : IntKind.i64.wrap (64 * (k : Int) + 64) = 64 * (k : Int) + 64 := by rw [IntKind.wrap_i64]; omega
          have hwr0 : IntKind.i64.wrap (64 * (k : Int)) = 64 * (k : Int) := by rw [IntKind.wrap_i64]; omega
          have he := blk_slice x k
          obtain ⟨B, hB⟩ : ∃ B, blkP x k = B := ⟨_, rfl⟩
          rw [hB] at H1 H2 he
          clear hB HMP hxs
          have hbs := HB.out.size
          go_upto_region 13 with fail
          refine wp_region_lin (S := (fun w' => w'.cell? ⟨g, o + i * 2, none⟩ = some (.int .i64 (k : Int)) ∧ w'.cell? ⟨g, o + i * 2 + 1, none⟩ = some (.string t))) [(0, true), (1, true), (2, true), (3, true), (4, true), (5, true), (6, true), (7, true), (8, true), (9, true), (10, true), (11, true), (12, true), (13, true), (14, true), (15, true), (16, true), (17, true), (18, true), (19, true), (20, true)] (by kernel_rfl) (by kernel_rfl) rfl (by kernel_rfl) ?_ (fun hHeld => ?_)
          · (try dsimp only); exact ⟨c0, c1⟩
          (refine wpL_calm (o := { dst := some 65, op := Go.Op.move (Go.Operand.tmp 7), type := 9, pos := "law.go:90", after := #[], guard := none }) (v := ?_) rfl (Or.inl ⟨by rfl, ?_⟩) ?_; rotate_left; (focus (intro w hSw; (try dsimp only at hSw); go_simp; (try (with_reducible rfl)); done)); try simp only [Act.put, List.setIfInBounds_toArray, List.set_cons_zero, List.set_cons_succ])
          (refine wpL_calm (o := { dst := some 66, op := Go.Op.move (Go.Operand.tmp 2), type := 25, pos := "law.go:90", after := #[], guard := none }) (v := ?_) rfl (Or.inl ⟨by rfl, ?_⟩) ?_; rotate_left; (focus (intro w hSw; (try dsimp only at hSw); go_simp; (try (with_reducible rfl)); done)); try simp only [Act.put, List.setIfInBounds_toArray, List.set_cons_zero, List.set_cons_succ])
          (refine wpL_calm (o := { dst := some 67, op := Go.Op.move (Go.Operand.tmp 14), type := 3, pos := "law.go:90", after := #[], guard := none }) (v := ?_) rfl (Or.inl ⟨by rfl, ?_⟩) ?_; rotate_left; (focus (intro w hSw; (try dsimp only at hSw); go_simp; (try (with_reducible rfl)); done)); try simp only [Act.put, List.setIfInBounds_toArray, List.set_cons_zero, List.set_cons_succ])
          (refine wpL_calm (o := { dst := some 68, op := Go.Op.indexAddr 25 (Go.Operand.tmp 66) (Go.Operand.tmp 67), type := 0, pos := "law.go:90", after := #[{ on := 1, ground := Go.Ground.data }, { on := 2, ground := Go.Ground.data }], guard := none }) (v := ?_) rfl (Or.inl ⟨by rfl, ?_⟩) ?_; rotate_left; (focus (intro w hSw; (try dsimp only at hSw); go_simp; (try (with_reducible rfl)); done)); try simp only [Act.put, List.setIfInBounds_toArray, List.set_cons_zero, List.set_cons_succ])
          (refine wpL_calm (o := { dst := some 69, op := Go.Op.fieldAddr 48 (Go.Operand.tmp 68) 0, type := 0, pos := "law.go:90", after := #[{ on := 3, ground := Go.Ground.data }], guard := none }) (v := ?_) rfl (Or.inl ⟨by rfl, ?_⟩) ?_; rotate_left; (focus (intro w hSw; (try dsimp only at hSw); go_simp; (try (with_reducible rfl)); done)); try simp only [Act.put, List.setIfInBounds_toArray, List.set_cons_zero, List.set_cons_succ])
          (refine wpL_calm (o := { dst := some 70, op := Go.Op.load 3 (Go.Operand.tmp 69), type := 3, pos := "law.go:90", after := #[{ on := 4, ground := Go.Ground.data }], guard := none }) (v := ?_) rfl (Or.inl ⟨by rfl, ?_⟩) ?_; rotate_left; (focus (intro w hSw; (try dsimp only at hSw); go_simp; (try (with_reducible rfl)); done)); try simp only [Act.put, List.setIfInBounds_toArray, List.set_cons_zero, List.set_cons_succ])
          (refine wpL_calm (o := { dst := some 71, op := Go.Op.binOp Go.BinOp.mul 3 (Go.Operand.const (Go.Value.int Go.IntKind.i64 64)) (Go.Operand.tmp 70) 3, type := 3, pos := "law.go:90", after := #[{ on := 5, ground := Go.Ground.data }], guard := none }) (v := ?_) rfl (Or.inl ⟨by rfl, ?_⟩) ?_; rotate_left; (focus (intro w hSw; (try dsimp only at hSw); go_simp; (try (with_reducible rfl)); done)); try simp only [Act.put, List.setIfInBounds_toArray, List.set_cons_zero, List.set_cons_succ])
          (refine wpL_calm (o := { dst := some 72, op := Go.Op.move (Go.Operand.tmp 2), type := 25, pos := "law.go:90", after := #[], guard := none }) (v := ?_) rfl (Or.inl ⟨by rfl, ?_⟩) ?_; rotate_left; (focus (intro w hSw; (try dsimp only at hSw); go_simp; (try (with_reducible rfl)); done)); try simp only [Act.put, List.setIfInBounds_toArray, List.set_cons_zero, List.set_cons_succ])
          (refine wpL_calm (o := { dst := some 73, op := Go.Op.move (Go.Operand.tmp 14), type := 3, pos := "law.go:90", after := #[], guard := none }) (v := ?_) rfl (Or.inl ⟨by rfl, ?_⟩) ?_; rotate_left; (focus (intro w hSw; (try dsimp only at hSw); go_simp; (try (with_reducible rfl)); done)); try simp only [Act.put, List.setIfInBounds_toArray, List.set_cons_zero, List.set_cons_succ])
          (refine wpL_calm (o := { dst := some 74, op := Go.Op.indexAddr 25 (Go.Operand.tmp 72) (Go.Operand.tmp 73), type := 0, pos := "law.go:90", after := #[{ on := 7, ground := Go.Ground.data }, { on := 8, ground := Go.Ground.data }], guard := none }) (v := ?_) rfl (Or.inl ⟨by rfl, ?_⟩) ?_; rotate_left; (focus (intro w hSw; (try dsimp only at hSw); go_simp; (try (with_reducible rfl)); done)); try simp only [Act.put, List.setIfInBounds_toArray, List.set_cons_zero, List.set_cons_succ])
          (refine wpL_calm (o := { dst := some 75, op := Go.Op.fieldAddr 48 (Go.Operand.tmp 74) 0, type := 0, pos := "law.go:90", after := #[{ on := 9, ground := Go.Ground.data }], guard := none }) (v := ?_) rfl (Or.inl ⟨by rfl, ?_⟩) ?_; rotate_left; (focus (intro w hSw; (try dsimp only at hSw); go_simp; (try (with_reducible rfl)); done)); try simp only [Act.put, List.setIfInBounds_toArray, List.set_cons_zero, List.set_cons_succ])
          (refine wpL_calm (o := { dst := some 76, op := Go.Op.load 3 (Go.Operand.tmp 75), type := 3, pos := "law.go:90", after := #[{ on := 10, ground := Go.Ground.data }], guard := none }) (v := ?_) rfl (Or.inl ⟨by rfl, ?_⟩) ?_; rotate_left; (focus (intro w hSw; (try dsimp only at hSw); go_simp; (try (with_reducible rfl)); done)); try simp only [Act.put, List.setIfInBounds_toArray, List.set_cons_zero, List.set_cons_succ])
          (refine wpL_calm (o := { dst := some 77, op := Go.Op.binOp Go.BinOp.mul 3 (Go.Operand.const (Go.Value.int Go.IntKind.i64 64)) (Go.Operand.tmp 76) 3, type := 3, pos := "law.go:90", after := #[{ on := 11, ground := Go.Ground.data }], guard := none }) (v := ?_) rfl (Or.inl ⟨by rfl, ?_⟩) ?_; rotate_left; (focus (intro w hSw; (try dsimp only at hSw); go_simp; (try (with_reducible rfl)); done)); try simp only [Act.put, List.setIfInBounds_toArray, List.set_cons_zero, List.set_cons_succ])
          (refine wpL_calm (o := { dst := some 78, op := Go.Op.binOp Go.BinOp.add 3 (Go.Operand.tmp 77) (Go.Operand.const (Go.Value.int Go.IntKind.i64 64)) 3, type := 3, pos := "law.go:90", after := #[{ on := 12, ground := Go.Ground.data }], guard := none }) (v := ?_) rfl (Or.inl ⟨by rfl, ?_⟩) ?_; rotate_left; (focus (intro w hSw; (try dsimp only at hSw); go_simp; (try (with_reducible rfl)); done)); try simp only [Act.put, List.setIfInBounds_toArray, List.set_cons_zero, List.set_cons_succ])
          (refine wpL_calm (o := { dst := some 79, op := Go.Op.slice 9 (Go.Operand.tmp 65) (some (Go.Operand.tmp 71)) (some (Go.Operand.tmp 78)) none, type := 9, pos := "law.go:90", after := #[{ on := 0, ground := Go.Ground.data }, { on := 6, ground := Go.Ground.data }, { on := 13, ground := Go.Ground.data }], guard := none }) (v := ?_) rfl (Or.inl ⟨by rfl, ?_⟩) ?_; rotate_left; (focus (intro w hSw; (try dsimp only at hSw); go_simp; (try (with_reducible rfl)); done)); try simp only [Act.put, List.setIfInBounds_toArray, List.set_cons_zero, List.set_cons_succ])
          (refine wpL_calm (o := { dst := some 80, op := Go.Op.move (Go.Operand.tmp 2), type := 25, pos := "law.go:90", after := #[], guard := none }) (v := ?_) rfl (Or.inl ⟨by rfl, ?_⟩) ?_; rotate_left; (focus (intro w hSw; (try dsimp only at hSw); go_simp; (try (with_reducible rfl)); done)); try simp only [Act.put, List.setIfInBounds_toArray, List.set_cons_zero, List.set_cons_succ])
          (refine wpL_calm (o := { dst := some 81, op := Go.Op.move (Go.Operand.tmp 14), type := 3, pos := "law.go:90", after := #[], guard := none }) (v := ?_) rfl (Or.inl ⟨by rfl, ?_⟩) ?_; rotate_left; (focus (intro w hSw; (try dsimp only at hSw); go_simp; (try (with_reducible rfl)); done)); try simp only [Act.put, List.setIfInBounds_toArray, List.set_cons_zero, List.set_cons_succ])
          (refine wpL_calm (o := { dst := some 82, op := Go.Op.indexAddr 25 (Go.Operand.tmp 80) (Go.Operand.tmp 81), type := 0, pos := "law.go:90", after := #[{ on := 15, ground := Go.Ground.data }, { on := 16, ground := Go.Ground.data }], guard := none }) (v := ?_) rfl (Or.inl ⟨by rfl, ?_⟩) ?_; rotate_left; (focus (intro w hSw; (try dsimp only at hSw); go_simp; (try (with_reducible rfl)); done)); try simp only [Act.put, List.setIfInBounds_toArray, List.set_cons_zero, List.set_cons_succ])
          (refine wpL_calm (o := { dst := some 83, op := Go.Op.fieldAddr 48 (Go.Operand.tmp 82) 1, type := 0, pos := "law.go:90", after := #[{ on := 17, ground := Go.Ground.data }], guard := none }) (v := ?_) rfl (Or.inl ⟨by rfl, ?_⟩) ?_; rotate_left; (focus (intro w hSw; (try dsimp only at hSw); go_simp; (try (with_reducible rfl)); done)); try simp only [Act.put, List.setIfInBounds_toArray, List.set_cons_zero, List.set_cons_succ])
          (refine wpL_calm (o := { dst := some 84, op := Go.Op.load 9 (Go.Operand.tmp 83), type := 9, pos := "law.go:90", after := #[{ on := 18, ground := Go.Ground.data }], guard := none }) (v := ?_) rfl (Or.inl ⟨by rfl, ?_⟩) ?_; rotate_left; (focus (intro w hSw; (try dsimp only at hSw); go_simp; (try (with_reducible rfl)); done)); try simp only [Act.put, List.setIfInBounds_toArray, List.set_cons_zero, List.set_cons_succ])
          (refine wpL_calm (o := { dst := some 85, op := Go.Op.binOp Go.BinOp.neq 9 (Go.Operand.tmp 79) (Go.Operand.tmp 84) 9, type := 4, pos := "law.go:90", after := #[{ on := 14, ground := Go.Ground.data }, { on := 19, ground := Go.Ground.data }], guard := none }) (v := ?_) rfl (Or.inl ⟨by rfl, ?_⟩) ?_; rotate_left; (focus (intro w hSw; (try dsimp only at hSw); go_simp; (try (with_reducible rfl)); done)); try simp only [Act.put, List.setIfInBounds_toArray, List.set_cons_zero, List.set_cons_succ])
          refine wpL_nil ?_
          refine NoPanic.normal ?_
          obtain ⟨bb, hbb⟩ : ∃ bb, (!(B.toList == t.toList)) = bb := ⟨_, rfl⟩
          rw [hbb] at H1 H2
          rw [hbb]
          have HO3 : Hid (wr.drew.ownsRow w5.heap.size 3 1 (.slice a7 M.length c7) M.length (M.map (Value.int .i64))) := Lib.hid HO.out
          have HB3 := Lib.hid HB.out.drew
          have hb3 := HB3.out.size
          have c0 : wr.drew.cell? ⟨g, o + i * 2, none⟩ = some (.int .i64 (k : Int)) := c0
          clear HO HB hHeld
          generalize wr.drew = w3 at *
          cases bb
          · have H3 := Lib.hid (H1.out rfl)
            clear H1 H2
            go_wp2_with fail
            go_roundw
            case rel => exact ⟨i + 1, M, by go_num, by omega, ⟨_, _, rfl⟩, by omega, H3, HO3, HB3⟩
            case measure => simp [intOf]; omega
          · have H3 := Lib.hid (H2.out rfl)
            clear H1 H2
            go_wp2_with (at_builtin; refine wpList_append_own _ rfl _ _ 43 rfl w5.heap.size 3 i0 (.int .i64 0) 1 8 Try.underlying43 hi0 hz0 hz1 hz2 rfl (by decide) _ M.length (M.map (Value.int .i64)) rfl (HO3.out.alloc _) ⟨w3.heap.size, 0, none⟩ 1 1 [.int .i64 (k : Int)] rfl rfl (cell_one_new _ _ _) (fun u hu => by simp at hu; subst hu; rfl) (by unfold maxLen; omega) (by omega) (by simp; omega) ?_)
            intro v' w6 hown hg6 _
            have hbn : ∀ j, (Value.slice a7 M.length c7).ownBlock = some j → w5.heap.size ≤ j := fun j e => (HO3.out.lt j e).1
            have HB6 := Lib.hid ((HB3.out.alloc hb3 _).grown hg6 (by simp; omega) (fun j e => hbn j e))
            have HO6 : Hid (OwnI w5.heap.size w6 v' (M ++ [(k : Int)])) := Lib.hid (by unfold OwnI; rw [List.length_append, List.map_append]; exact hown)
            obtain ⟨a', c', rfl⟩ := own_slI HO6.out
            clear hown hg6 hbn HO3 HB3
            go_wp2_with fail
            go_roundw
            case rel => exact ⟨i + 1, M ++ [(k : Int)], by go_num, by omega, ⟨_, _, rfl⟩, by simp; omega, H3, HO6, HB6⟩
            case measure => simp [intOf]; omega
        · as_aux_lemma =>
          have hli : ¬ (i : Int) < (n : Int) := by omega
          have hin : i = n := by omega
          have HEM : X = M := by rw [← HMX.out, ← HM.out, hin, ← hnn.out, List.take_length]
          subst HEM
          rw [hmm.out]
          have HBr := Lib.hid (HB5.out.trans (HB.out.mono HB5.out.size))
          have HO6 := Lib.hid (HO5.out.below HB.out)
          clear HB HO5 HB5 HM HMX
          go_wp2_with fail
          refine (awake32 wr).mono ?_
          rintro e w6 ⟨rfl, hb6⟩
          have HB6 := Lib.hid (HBr.out.trans (hb6.mono HBr.out.size))
          have HO7 := Lib.hid (HO6.out.below hb6)
          have HO8 := Lib.hid (OwnI.below HO.out hb6)
          have CP := Lib.hid (rapply_any x ao c L w6 hx (HAT.out.below HB6.out) (by rw [hnn.out]; omega) HP.out)
          rw [hnn.out, ← HTA.out] at CP
          clear HBr HO6 HO hb6
          go_wp2_with fail
          refine CP.out.mono ?_
          rintro e w7 ⟨rfl, hb7⟩
          have HB7 := Lib.hid (HB6.out.trans (hb7.mono HB6.out.size))
          have CN := Lib.hid (ints_raw am a7 m m cm c7 X X w7 hmm.out hmm.out (by have := (HO7.out.below hb7).at; rwa [hmm.out] at this) (by have := (HO8.out.below hb7).at; rwa [hmm.out] at this) (by unfold maxLen; omega) true (Lib.hid (decide_eq_true rfl)))
          clear HB6 CP hb7 HO7 HO8
          go_wp2_with fail
          refine CN.out.mono ?_
          rintro e w8 ⟨rfl, hb8⟩
          have HB8 := Lib.hid (HB7.out.trans (hb8.mono HB7.out.size))
          clear CN hb8
          go_wp2_with fail
          go_ret
          exact ⟨by first | rfl | simp, HB8.out⟩
    · as_aux_lemma =>
      have hE1 : (E != 0) = true := by simpa using hE
      have hT : T = ⟨#[]⟩ := by rw [← HT.out]; unfold appA; rw [if_neg (by rw [HE.out]; exact hE)]
      have hX : X = [] := by rw [← HX.out]; unfold misA; rw [if_neg (by rw [HE.out]; exact hE)]
      have hm0 : m = 0 := by rw [← hmm.out, hX]; rfl
      subst hT hm0
      clear HT HX
      go_wp2_with fail
      refine (awake32 w5).mono ?_
      rintro e w6 ⟨rfl, hb6⟩
      have HB6 := Lib.hid (HB5.out.trans (hb6.mono HB5.out.size))
      clear hb6
      go_wp2_with fail
      go_ret
      exact ⟨by first | rfl | simp, HB6.out⟩
section
variable {H : Type} {enc : TypeId × Value → H}
theorem planApplies_walk (s : ByteArray) (odd : Bool) (v : Value) (d : DataW H) (p : List MemPlace) (w : World) (hs : s.size ≤ 140737488351232) (hv : ∃ a len cap, v = .slice a len cap) (h : DataW.Trod enc Try.prog w 0 (fun _ => true) true 25 v d p) :
    Calls Try.prog 4 #[.string s, .bool odd, v] w fun e w' => e = .returned (.bool true) ∧ Below w.heap.size w w' := by
  obtain ⟨ao, len, cap, L, rfl, hl, hm, hn, hA, _⟩ := open_puO hv h
  subst hn
  exact planApplies_any s odd ao cap L w (by omega) hA (by omega)
end
end Go.Proofs.Ytnlgkhggokloeaa
