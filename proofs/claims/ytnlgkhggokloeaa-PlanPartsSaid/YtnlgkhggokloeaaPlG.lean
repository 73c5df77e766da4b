/- Package plan: Missing. -/
import Derived.Test.YtnlgkhggokloeaaPlF
namespace Go.Proofs.Ytnlgkhggokloeaa
open Go.RowKit Go.Deep
set_option linter.unusedVariables false
set_option linter.unusedSimpArgs false
theorem errP_all : ∀ {L : List Pu}, errP L = 0 → ∀ p ∈ L, okP p = 0
  | [], _, p, hp => absurd hp (by simp)
  | q :: r, h, p, hp => by
    unfold errP at h
    by_cases h0 : okP q ≠ 0
    · rw [if_pos h0] at h; exact absurd h h0
    · rw [if_neg h0] at h
      rcases List.mem_cons.1 hp with rfl | hp
      · exact Classical.not_not.1 h0
      · exact errP_all h p hp
theorem okP_zero {p : Pu} (h : okP p = 0) : 0 ≤ p.1 ∧ p.1 ≤ 287 ∧ p.2.size = 64 := by
  unfold okP at h
  split at h
  · exact absurd h (by decide)
  · split at h
    · exact absurd h (by decide)
    · rename_i h1 h2
      exact ⟨by omega, by omega, Classical.not_not.1 h2⟩
theorem toList_eq {a b : ByteArray} (h : (a.toList == b.toList) = true) : a = b := by
  have e := pu_eq (p := ((0 : Int), a)) (q := (0, b))
  rw [h] at e
  have e2 : decide (((0 : Int), a) = (0, b)) = true := by rw [← e]; rfl
  exact (Prod.mk.inj (of_decide_eq_true e2)).2
/-- An own row of ints. -/
def OwnI (N : Nat) (w : World) (v : Value) (X : List Int) : Prop := w.ownsRow N 3 1 v X.length (X.map (Value.int .i64))
theorem OwnI.nil (N : Nat) (w : World) : OwnI N w (.slice none 0 0) [] := World.ownsRow_nil _ _ _ _
/-- Which Puts an image has not. -/
def misP (s : ByteArray) (p : Pu) : Bool := !((blkP s p.1.toNat).toList == p.2.toList)
def misL (s : ByteArray) (L : List Pu) : List Int := (L.filter (misP s)).map (·.1)
theorem misL_no (s : ByteArray) (L : List Pu) (i : Nat) (hi : i < L.length) (h : misP s L[i] = false) : misL s (L.take (i + 1)) = misL s (L.take i) := by
  unfold misL
  rw [take_snoc L i hi, List.filter_append, List.filter_cons_of_neg (by simpa using h)]
  simp
theorem misL_yes (s : ByteArray) (L : List Pu) (i : Nat) (hi : i < L.length) (h : misP s L[i] = true) : misL s (L.take (i + 1)) = misL s (L.take i) ++ [L[i].1] := by
  unfold misL
  rw [take_snoc L i hi, List.filter_append, List.filter_cons_of_pos (by simpa using h)]
  simp
def misA (s : ByteArray) (L : List Pu) : List Int := if errA s L = 0 then misL s L else []
/-- What Missing comes to. -/
def MisR (s : ByteArray) (L : List Pu) (w : World) (e : Ending) (w' : World) : Prop := ∃ a c, e = .returned (.tuple #[.slice a (misA s L).length c, .int .i64 (errA s L)]) ∧ OwnI w.heap.size w' (.slice a (misA s L).length c) (misA s L) ∧ Below w.heap.size w w'
theorem own_slI {N : Nat} {w : World} {v : Value} {X : List Int} (h : OwnI N w v X) : ∃ a c, v = .slice a X.length c := own_slO h
set_option maxRecDepth 100000 in
set_option maxHeartbeats 8000000 in
theorem missing_any (s : ByteArray) (ao : Option Addr) (c : Nat) (L : List Pu) (w : World) (hs : s.size ≤ 9223372036854775807) (hat : PuAt w ao L) (hn : L.length ≤ 50000) : Calls Try.prog 18 #[.string s, .slice ao L.length c] w (MisR s L w) := by
  have HAT := Lib.hid hat
  have CR := Lib.hid (refused_any s ao c L w hs hat hn)
  obtain ⟨n, hnn⟩ : ∃ n, Hid (L.length = n) := ⟨_, Lib.hid rfl⟩
  obtain ⟨E, HE⟩ : ∃ E, Hid (errA s L = E) := ⟨_, Lib.hid rfl⟩
  rw [hnn.out] at hn CR ⊢
  rw [HE.out] at CR
  obtain ⟨i0, hi0, hz0, hz1, hz2⟩ := info_partsO info_i64O
  clear hat
  go_enter Try.func18, Try.ntmps18
  go_wp2_with fail
  refine CR.out.mono ?_
  rintro e w1 ⟨rfl, hb1⟩
  have HB1 := Lib.hid hb1
  clear CR hb1
  by_cases hE : E = 0
  · have HS : Hid (s.size = 18432) := Lib.hid (by have h := HE.out; rw [hE] at h; unfold errA at h; split at h
                                                  · exact absurd h (by decide)
                                                  · rename_i h1; exact Classical.not_not.1 h1)
    have HP : Hid (∀ p ∈ L, okP p = 0) := Lib.hid (errP_all (by have h := HE.out; rw [hE] at h; rwa [errA_ok HS.out] at h))
    have HMA : Hid (misA s L = misL s L) := Lib.hid (by unfold misA; rw [if_pos (by rw [HE.out, hE])])
    subst hE
    go_wp2_with fail
    go_loopw [7, 18] (fun s7 s18 wi => ∃ (i : Nat) (M : List Int), s18 = .int .i64 (i : Int) ∧ i ≤ n ∧ (∃ a c, s7 = .slice a M.length c) ∧ M.length ≤ i ∧ Hid (misL s (L.take i) = M) ∧ Hid (OwnI w.heap.size wi s7 M) ∧ Hid (Below w.heap.size w wi)) (fun _ s18 _ => n - (intOf s18).toNat)
    case atStart => exact ⟨0, [], rfl, by omega, ⟨_, _, rfl⟩, by simp, Lib.hid rfl, Lib.hid (OwnI.nil _ _), HB1⟩
    case round =>
      obtain ⟨i, M, rfl, hi, ⟨a7, c7, rfl⟩, hM, HM, HO, HB⟩ := hrel
      by_cases hlt : i < n
      · as_aux_lemma =>
        have hli : (i : Int) < (n : Int) := by omega
        have hil : i < L.length := by rw [hnn.out]; exact hlt
        obtain ⟨g, o, rfl, hg, hc⟩ := HAT.out (by omega)
        have c0 := (HB.out.cell (p := ⟨g, o + i * 2, none⟩) hg).trans (hc i hil).1
        have c1 := (HB.out.cell (p := ⟨g, o + i * 2 + 1, none⟩) hg).trans (hc i hil).2
        obtain ⟨h0, h287, _⟩ := okP_zero (HP.out _ (List.getElem_mem hil))
        have H1 := Lib.hid (misL_no s L i hil)
        have H2 := Lib.hid (misL_yes s L i hil)
        rw [HM.out] at H1 H2
        clear hc HM
        generalize L[i] = z at *
        obtain ⟨x, t⟩ := z
        have h0 : 0 ≤ x := h0
        have h287 : x ≤ 287 := h287
        obtain ⟨k, rfl⟩ : ∃ k : Nat, x = (k : Int) := ⟨x.toNat, by omega⟩
        have c0 : wr.cell? ⟨g, o + i * 2, none⟩ = some (.int .i64 (k : Int)) := c0
        have c1 : wr.cell? ⟨g, o + i * 2 + 1, none⟩ = some (.string t) := c1
        have hbs := HB.out.size
        obtain ⟨w2, hw2⟩ : ∃ w2, wr.alloc (.cells #[.int .i64 (k : Int), .string t] 48) = w2 := ⟨_, rfl⟩
        obtain ⟨gx, hgx⟩ : ∃ gx, Hid (wr.heap.size = gx) := ⟨_, Lib.hid rfl⟩
        have b2 : Below wr.heap.size wr w2 := by rw [← hw2]; exact (Below.refl _ _).alloc (Nat.le_refl _) _
        have x0 : w2.cell? ⟨gx, 0, none⟩ = some (.int .i64 (k : Int)) := by rw [← hgx.out, ← hw2]; exact World.cell?_alloc_at _ _ _ _ rfl
        have x1 : w2.cell? ⟨gx, 1, none⟩ = some (.string t) := by rw [← hgx.out, ← hw2]; exact World.cell?_alloc_at _ _ _ _ rfl
        have HO2 : Hid (OwnI w.heap.size w2 (.slice a7 M.length c7) M) := Lib.hid (by rw [← hw2]; exact World.ownsRow.alloc HO.out _)
        have HB2 := Lib.hid (HB.out.trans (b2.mono hbs))
        have CB := Lib.hid (fun w' => block_any s k w' HS.out (by omega))
        have HW2 := Lib.hid hw2
        have hb2 := HB2.out.size
        have HMP : Hid (misP s ((k : Int), t) = !((blkP s k).toList == t.toList)) := Lib.hid (by unfold misP; simp)
        rw [HMP.out] at H1 H2
        obtain ⟨B, hB⟩ : ∃ B, blkP s k = B := ⟨_, rfl⟩
        rw [hB] at H1 H2 CB
        clear hw2 b2 HO HB hB HMP
        go_upto_region 8 with fail
        rw [HW2.out, hgx.out]
        clear HW2 c0 c1
        refine wp_region_lin (S := (fun w' => w'.cell? ⟨gx, 0, none⟩ = some (.int .i64 (k : Int)) ∧ w'.cell? ⟨gx, 1, none⟩ = some (.string t))) [(0, true), (1, true), (2, true), (4, true), (5, true), (3, false), (6, true)] (by kernel_rfl) (by kernel_rfl) rfl (by kernel_rfl) ?_ (fun hHeld => ?_)
        · (try dsimp only); exact ⟨x0, x1⟩
        (refine wpL_calm (o := { dst := some 22, op := Go.Op.move (Go.Operand.tmp 0), type := 9, pos := "plan.go:103", after := #[], guard := none }) (v := ?_) rfl (Or.inl ⟨by rfl, ?_⟩) ?_; rotate_left; (focus (intro w hSw; (try dsimp only at hSw); go_simp; (try (with_reducible rfl)); done)); try simp only [Act.put, List.setIfInBounds_toArray, List.set_cons_zero, List.set_cons_succ])
        (refine wpL_calm (o := { dst := some 23, op := Go.Op.fieldAddr 48 (Go.Operand.tmp 9) 0, type := 0, pos := "plan.go:103", after := #[], guard := none }) (v := ?_) rfl (Or.inl ⟨by rfl, ?_⟩) ?_; rotate_left; (focus (intro w hSw; (try dsimp only at hSw); go_simp; (try (with_reducible rfl)); done)); try simp only [Act.put, List.setIfInBounds_toArray, List.set_cons_zero, List.set_cons_succ])
        (refine wpL_calm (o := { dst := some 24, op := Go.Op.load 3 (Go.Operand.tmp 23), type := 3, pos := "plan.go:103", after := #[{ on := 1, ground := Go.Ground.data }], guard := none }) (v := ?_) rfl (Or.inl ⟨by rfl, ?_⟩) ?_; rotate_left; (focus (intro w hSw; (try dsimp only at hSw); go_simp; (try (with_reducible rfl)); done)); try simp only [Act.put, List.setIfInBounds_toArray, List.set_cons_zero, List.set_cons_succ])
        (refine wpL_calm (o := { dst := some 26, op := Go.Op.fieldAddr 48 (Go.Operand.tmp 9) 1, type := 0, pos := "plan.go:103", after := #[], guard := none }) (v := ?_) rfl (Or.inl ⟨by rfl, ?_⟩) ?_; rotate_left; (focus (intro w hSw; (try dsimp only at hSw); go_simp; (try (with_reducible rfl)); done)); try simp only [Act.put, List.setIfInBounds_toArray, List.set_cons_zero, List.set_cons_succ])
        (refine wpL_calm (o := { dst := some 27, op := Go.Op.load 9 (Go.Operand.tmp 26), type := 9, pos := "plan.go:103", after := #[{ on := 4, ground := Go.Ground.data }], guard := none }) (v := ?_) rfl (Or.inl ⟨by rfl, ?_⟩) ?_; rotate_left; (focus (intro w hSw; (try dsimp only at hSw); go_simp; (try (with_reducible rfl)); done)); try simp only [Act.put, List.setIfInBounds_toArray, List.set_cons_zero, List.set_cons_succ])
        refine wpL_loud1 (o := { dst := some 25, op := Go.Op.call { callee := Go.Callee.value (Go.Operand.func 29), args := #[Go.Operand.tmp 22, Go.Operand.tmp 24], argTypes := #[9, 3] }, type := 9, pos := "plan.go:103", after := #[{ on := 0, ground := Go.Ground.data }, { on := 2, ground := Go.Ground.data }], guard := none }) rfl (fun K hK => ?_)
        (go_simp; go_at_call 29; refine (CB.out _).mono ?_; rintro e w3 ⟨rfl, rfl⟩)
        try go_wp2_with fail
        refine hK.out _ _ ?_ (fun hHeld => ?_)
        · (try dsimp only); exact hHeld
        clear hK K
        try simp only [Act.put, List.setIfInBounds_toArray, List.set_cons_zero, List.set_cons_succ]
        (refine wpL_calm (o := { dst := some 28, op := Go.Op.binOp Go.BinOp.neq 9 (Go.Operand.tmp 25) (Go.Operand.tmp 27) 9, type := 4, pos := "plan.go:103", after := #[{ on := 3, ground := Go.Ground.data }, { on := 5, ground := Go.Ground.data }], guard := none }) (v := ?_) rfl (Or.inl ⟨by rfl, ?_⟩) ?_; rotate_left; (focus (intro w hSw; (try dsimp only at hSw); go_simp; (try (with_reducible rfl)); done)); try simp only [Act.put, List.setIfInBounds_toArray, List.set_cons_zero, List.set_cons_succ])
        refine wpL_nil ?_
        refine NoPanic.normal ?_
        have HO3 : Hid (OwnI w.heap.size w2.drew (.slice a7 M.length c7) M) := Lib.hid HO2.out
        have HB3 := Lib.hid HB2.out.drew
        have hb3 := HB3.out.size
        clear HO2 HB2 hb2
        generalize w2.drew = w3 at *
        obtain ⟨bb, hbb⟩ : ∃ bb, (!(B.toList == t.toList)) = bb := ⟨_, rfl⟩
        rw [hbb] at H1 H2
        rw [hbb]
        cases bb
        · have H3 := Lib.hid (H1.out rfl)
          clear H1 H2
          go_wp2_with fail
          go_roundw
          case rel => exact ⟨i + 1, M, by go_num, by omega, ⟨_, _, rfl⟩, by omega, H3, HO3, HB3⟩
          case measure => simp [intOf]; omega
        · have H3 := Lib.hid (H2.out rfl)
          clear H1 H2
          have HQ : Hid (w3.ownsRow w.heap.size 3 1 (.slice a7 M.length c7) M.length (M.map (Value.int .i64))) := Lib.hid HO3.out
          have hMx : M.length ≤ 50000 := by omega
          go_upto_region 9 with fail
          go_wp2_with (at_builtin; refine wpList_append_own _ rfl _ _ 43 rfl w.heap.size 3 i0 (.int .i64 0) 1 8 Try.underlying43 hi0 hz0 hz1 hz2 rfl (by decide) _ M.length (M.map (Value.int .i64)) rfl (HQ.out.alloc _) ⟨w3.heap.size, 0, none⟩ 1 1 [.int .i64 (k : Int)] rfl rfl (cell_one_new _ _ _) (fun u hu => by simp at hu; subst hu; rfl) (by unfold maxLen; omega) (by omega) (by simp; omega) ?_)
          intro v' w5 hown hg5 _
          have hbn : ∀ j, (Value.slice a7 M.length c7).ownBlock = some j → w.heap.size ≤ j := fun j e => (HQ.out.lt j e).1
          have HB5 := Lib.hid ((HB3.out.alloc hb3 _).grown hg5 (by simp; omega) (fun j e => hbn j e))
          have HO5 : Hid (OwnI w.heap.size w5 v' (M ++ [(k : Int)])) := Lib.hid (by unfold OwnI; rw [List.length_append, List.map_append]; exact hown)
          obtain ⟨a', c', rfl⟩ := own_slI HO5.out
          clear hown hg5 hbn HO3 HB3
          go_wp2_with fail
          go_roundw
          case rel => exact ⟨i + 1, M ++ [(k : Int)], by go_num, by omega, ⟨_, _, rfl⟩, by simp; omega, H3, HO5, HB5⟩
          case measure => simp [intOf]; omega
      · as_aux_lemma =>
        have hli : ¬ (i : Int) < (n : Int) := by omega
        have hin : i = n := by omega
        have HEA : Hid (misA s L = M) := Lib.hid (by rw [HMA.out, ← HM.out, hin, ← hnn.out, List.take_length])
        go_wp2_with fail
        go_ret2
        unfold MisR
        rw [HEA.out, HE.out]
        exact ⟨a7, c7, rfl, HO.out, HB.out⟩
  · have hE1 : (E != 0) = true := by simpa using hE
    have HMA : Hid (misA s L = []) := Lib.hid (by unfold misA; rw [if_neg (by rw [HE.out]; exact hE)])
    go_wp2_with fail
    go_ret2
    unfold MisR
    rw [HMA.out, HE.out]
    exact ⟨none, 0, rfl, OwnI.nil _ _, HB1.out⟩
end Go.Proofs.Ytnlgkhggokloeaa
