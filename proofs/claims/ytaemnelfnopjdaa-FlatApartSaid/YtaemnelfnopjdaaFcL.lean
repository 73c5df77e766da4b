/- The law FlatDoes. -/
import Derived.Test.YtaemnelfnopjdaaFcK
import Derived.Test.YtaemnelfnopjdaaLinC
namespace Go.Proofs.Ytaemnelfnopjdaa
open Go.ChangeShapes Go.WideShapes Go.Deep Go.RowKit Go.Maps
set_option linter.unusedVariables false
set_option linter.unusedSimpArgs false
theorem RfW.weak {w : World} {B B' g n gc cap : Nat} {cs : List RC} (h : RfW w B g n cs gc cap) (hB : B' ≤ B) : RfW w B' g n cs gc cap :=
  ⟨h.hg, h.lc, h.cap, h.cell, fun c hc => ⟨(h.row c hc).1, (h.row c hc).2.1, (h.row c hc).2.2.1, Nat.le_trans hB (h.row c hc).2.2.2⟩, Nat.le_trans hB h.bg, Nat.le_trans hB h.bc⟩
theorem fc_bound {F C i : Nat} (h : F ^ 3 * 3 ^ C ≤ 3 ^ i) (hi : i ≤ 30) : F * (1 + C) ≤ 200000 := by
  have h1 := Nat.mul_le_mul_left (F ^ 3) (cube_le C)
  rw [← Nat.mul_pow, Nat.pow_succ 3 C, ← Nat.mul_assoc] at h1
  have h2 : 3 ^ i ≤ 3 ^ 30 := Nat.pow_le_pow_right (by omega) hi
  have h3 : (3 : Nat) ^ 30 = 205891132094649 := by decide
  rw [Nat.add_comm 1 C]
  by_cases hx : F * (C + 1) ≤ 200000
  · exact hx
  · exfalso
    have h4 := Nat.pow_le_pow_left (show 200001 ≤ F * (C + 1) by omega) 3
    have h5 : (200001 : Nat) ^ 3 = 8000120000600001 := by decide
    omega
theorem grow_next {M M' : Fl} {i : Nat} (h : GrowF M M') (hb : M.F.length ^ 3 * 3 ^ M.C.length ≤ 3 ^ i) : M'.F.length ^ 3 * 3 ^ M'.C.length ≤ 3 ^ (i + 1) := by
  have := h.2.2.2
  rw [Nat.pow_succ 3 i]; omega
/-- Two new models. -/
theorem pair_new {w1 w2 : World} {B g x N gc b : Nat} {OL : List Nat} (h1 : 1 ≤ N) (h2 : N ≤ 64) (hf : FlW w1 B g OL [] (newM N)) (hx : RfW w2 w1.heap.size x N [⟨b, 1, [List.replicate (48 * N) 0]⟩] gc 1) (hb : Below w1.heap.size w1 w2) : PairF w2 B g x OL [] (newM N) [⟨b, 1, [List.replicate (48 * N) 0]⟩] gc 1 := by
  have hlt : ∀ {k}, k ∈ OL → k < w1.heap.size := fun hk => (hf.own_lt hk).1
  refine ⟨hf.below hb, hx.weak hf.bw, newM_ok h1 h2, ?_, fun hm => ?_, fun hm => ?_, fun c hc hm => ?_⟩
  · show [[List.replicate (48 * N) 0]] = [chT (newM N) zst]
    rw [chT_start N h1 h2]
  · have := hlt hm; have := hx.bg; omega
  · have := hlt hm; have := hx.bc; omega
  · have := hlt hm; have := (hx.row c hc).2.2.2; omega
/-- What is told of both. -/
theorem pair_counts {w : World} {B g x gc cap : Nat} {OL CL : List Nat} {M : Fl} {cs : List RC} (P : PairF w B g x OL CL M cs gc cap) (hFC : M.F.length * (1 + M.C.length) ≤ 200000) (hC : M.C.length ≤ 60) : ∃ q r : Nat, q ≤ 200000 ∧ w.cell? ⟨x, 1, none⟩ = some (.slice (some ⟨gc, 0, none⟩) q cap) ∧
    Hid (Calls Try.prog 11 #[.pointer (some ⟨g, 0, none⟩)] w fun e w' => e = .returned (.int .i64 (q : Int)) ∧ w = w') ∧
    Hid (∀ w1, Below w.heap.size w w1 → Calls Try.prog 12 #[.pointer (some ⟨g, 0, none⟩)] w1 fun e w' => e = .returned (.int .i64 (r : Int)) ∧ Below w1.heap.size w1 w') ∧
    Hid (∀ w1, Below w.heap.size w w1 → Calls Try.prog 13 #[.pointer (some ⟨x, 0, none⟩)] w1 fun e w' => e = .returned (.int .i64 (r : Int)) ∧ w1 = w') := by
  have hF : M.F.length ≤ 200000 := Nat.le_trans (Nat.le_mul_of_pos_right _ (by omega)) hFC
  refine ⟨M.F.length, M.F.length * (1 + M.C.length), hF, ?_, Lib.hid (worlds_any P.fl), Lib.hid (fun w1 b => states_any (P.fl.below b) (by omega) (by omega)), Lib.hid (fun w1 b => ?_)⟩
  · have := cell_of_row w x 1 _ _ _ P.rf.hg
    rw [P.rel.len] at this
    exact this
  · have := rstates_any (P.rf.below b) (by rw [P.rel.len]; omega) (fun i _ => Nat.le_trans (P.rel.sums i) (by omega))
    rw [P.rel.sum] at this
    exact this
set_option maxRecDepth 100000 in
set_option maxHeartbeats 16000000 in
theorem flatDoes_any (n : Int) (ao : Option Addr) (cap : Nat) (L : List AcF) (w : World) (hL : AfAt w ao L) (hLn : L.length ≤ maxLen) (hA : ∀ x ∈ L, AcOk x) : Calls Try.prog 3 #[.int .i64 n, .slice ao L.length cap] w fun e w' => e = .returned (.bool true) ∧ Below w.heap.size w w' := by
  by_cases hn : n < 1 ∨ 64 < n
  · as_aux_lemma =>
    have CN := new_any n w
    rw [show (fun (e : Ending) (w' : World) => if n < 1 ∨ 64 < n then e = .returned (.tuple #[.pointer none, .int .i64 2]) ∧ w = w' else ∃ g OL, e = .returned (.tuple #[.pointer (some ⟨g, 0, none⟩), .int .i64 0]) ∧ FlW w' w.heap.size g OL [] (newM n.toNat) ∧ Below w.heap.size w w') = (fun e w' => e = .returned (.tuple #[.pointer none, .int .i64 2]) ∧ w = w') from by funext e w'; rw [if_pos hn]] at CN
    have CN := Lib.hid CN
    clear hL hA
    generalize L.length = nl at *
    go_enter Try.func3, Try.ntmps3
    go_wp2_with fail
    refine CN.out.mono ?_
    rintro e w' ⟨rfl, rfl⟩
    clear CN
    by_cases h1 : n < 1
    · have h1' : decide (n < 1) = true := decide_eq_true h1
      go_wp2_with fail
      refine (awake26 w).mono ?_
      rintro e w2 ⟨rfl, b2⟩
      have HB2 := Lib.hid b2
      clear b2
      go_wp2_with fail
      go_ret
      exact ⟨rfl, HB2.out⟩
    · have h1' : decide (n < 1) = false := decide_eq_false h1
      have h2 : 64 < n := by omega
      have h2' : decide (64 < n) = true := decide_eq_true h2
      clear hn
      go_wp2_with fail
      refine (awake26 w).mono ?_
      rintro e w2 ⟨rfl, b2⟩
      have HB2 := Lib.hid b2
      clear b2
      go_wp2_with fail
      go_ret
      exact ⟨rfl, HB2.out⟩
  · as_aux_lemma =>
    obtain ⟨N, rfl⟩ : ∃ N : Nat, n = (N : Int) := ⟨n.toNat, by omega⟩
    have h1 : 1 ≤ N := by omega
    have h2 : N ≤ 64 := by omega
    have h1' : ¬ (N : Int) < 1 := by omega
    have h2' : ¬ (64 : Int) < (N : Int) := by omega
    have CN := Lib.hid (new_ok N w h1 h2)
    have CX := Lib.hid (fun w => rnew_any N w h2)
    have HL := Lib.hid hL
    have HA := Lib.hid hA
    obtain ⟨nl, hnl⟩ : ∃ nl, Hid (L.length = nl) := ⟨_, Lib.hid rfl⟩
    rw [hnl.out] at hLn ⊢
    have hnlb : nl ≤ 9223372036854775807 := by unfold maxLen at hLn; omega
    clear hL hA hLn hn
    go_enter Try.func3, Try.ntmps3
    go_wp2_with fail
    refine CN.out.mono ?_
    rintro e w1 ⟨g, OL0, rfl, f1, b1⟩
    have HB1 := Lib.hid b1
    have H1 := Lib.hid f1
    clear CN b1 f1
    go_wp2_with fail
    refine (CX.out w1).mono ?_
    rintro e w2 ⟨x, gc0, bb0, rfl, f2, b2⟩
    have H2 := Lib.hid (pair_new h1 h2 H1.out f2 b2)
    have HB2 := Lib.hid (HB1.out.trans (b2.mono HB1.out.size))
    clear CX f2 b2 H1 HB1
    go_wp2_with fail
    refine (awake26 w2).mono ?_
    rintro e w3 ⟨rfl, b3⟩
    have H3 := Lib.hid (H2.out.below b3)
    have HB3 := Lib.hid (HB2.out.trans (b3.mono HB2.out.size))
    have HG0 : Hid ((newM N).F.length ^ 3 * 3 ^ (newM N).C.length ≤ 3 ^ 0) := Lib.hid (by show 1 ^ 3 * 3 ^ 0 ≤ 3 ^ 0; decide)
    clear b3 H2 HB2
    go_wp2_with fail
    go_loopw [8] (fun s8 wi => ∃ (i : Nat) (OL CL : List Nat) (M : Fl) (cs : List RC) (gc cp : Nat), s8 = .int .i64 (i : Int) ∧ i ≤ 30 ∧ i ≤ nl ∧ Hid (PairF wi w.heap.size g x OL CL M cs gc cp) ∧ M.T.length ≤ 1 + 100 * i ∧ M.C.length ≤ i ∧ Hid (M.F.length ^ 3 * 3 ^ M.C.length ≤ 3 ^ i) ∧ Hid (Below w.heap.size w wi)) (fun s8 _ => 30 - (intOf s8).toNat)
    case atStart => exact ⟨0, OL0, [], newM N, _, gc0, 1, rfl, by omega, by omega, H3, by show 1 ≤ 1; omega, by show 0 ≤ 0; omega, HG0, HB3⟩
    case round =>
      obtain ⟨i, OL, CL, M, cs, gc, cp, rfl, hi, hin, HP, hT, hC, HG, HB⟩ := hrel
      clear H3 HG0 HB3
      by_cases hgo : (i : Int) < (nl : Int) ∧ (i : Int) < 30
      · as_aux_lemma =>
        obtain ⟨g1, g2⟩ := hgo
        have hiL : i < L.length := by rw [hnl.out]; omega
        obtain ⟨ga, oa, rfl, hga, hcc⟩ := HL.out (by omega)
        have hac := HA.out _ (List.getElem_mem hiL)
        have hcc := hcc i hiL
        obtain ⟨a, hx⟩ : ∃ a, Hid (L[i] = a) := ⟨_, Lib.hid rfl⟩
        rw [hx.out] at hac hcc
        have HCC := Lib.hid hcc
        have HD := Lib.hid (fun w4 (h : PairF w4 w.heap.size g x OL CL M cs gc cp) => do_any a hac h (by omega) (by omega) (fc_bound HG.out (by omega)))
        have HP0 := Lib.hid (HP.out.below (Below.refl wr.heap.size wr).drew)
        have HB0 := Lib.hid HB.out.drew
        have hii : i + 1 ≤ 30 := by omega
        obtain ⟨ak, aa, an, ac, ao⟩ := a
        have hacv : acV ⟨ak, aa, an, ac, ao⟩ = .agg #[.int .i64 ak, .int .i64 aa, .int .i64 an, .int .u8 (ac.toNat : Int), .bool ao] := rfl
        rw [hacv] at HD
        obtain ⟨c0, c1, c2, c3, c4⟩ := hcc.below hga HB.out
        simp only at c0 c1 c2 c3 c4
        clear hac hacv hx
        go_upto_region 10 with fail
        refine wp_region_lin2 (S := (fun w' => w'.cell? ⟨ga, oa + i * 5, none⟩ = some (.int .i64 ak) ∧ w'.cell? ⟨ga, oa + i * 5 + 1, none⟩ = some (.int .i64 aa) ∧ w'.cell? ⟨ga, oa + i * 5 + 2, none⟩ = some (.int .i64 an) ∧ w'.cell? ⟨ga, oa + i * 5 + 3, none⟩ = some (.int .u8 (ac.toNat : Int)) ∧ w'.cell? ⟨ga, oa + i * 5 + 4, none⟩ = some (.bool ao))) [(0, true), (1, true), (2, true), (3, true), (4, true), (5, true), (6, false)] [(7, true), (8, true), (9, true), (11, true), (12, true), (13, true), (14, true), (15, true), (10, false), (16, true), (17, true), (18, true), (19, true), (21, true), (20, false), (22, false), (23, true), (24, true)] (by kernel_rfl) (by kernel_rfl) rfl (by kernel_rfl) (by kernel_rfl) (by kernel_rfl) ?_ (fun hHeld => ?_)
        · (try dsimp only); exact ⟨c0, c1, c2, c3, c4⟩
        generalize World.drew wr = w4 at *
        (refine wpM_calm (o := { dst := some 51, op := Go.Op.move (Go.Operand.tmp 5), type := 23, pos := "law.go:98", after := #[], guard := none }) (v := ?_) rfl (Or.inl ⟨by rfl, ?_⟩) ?_; rotate_left; (focus (intro w hSw; (try dsimp only at hSw); go_simp; (try (with_reducible rfl)); done)); try simp only [Act.put, List.setIfInBounds_toArray, List.set_cons_zero, List.set_cons_succ])
        (refine wpM_calm (o := { dst := some 52, op := Go.Op.move (Go.Operand.tmp 7), type := 28, pos := "law.go:98", after := #[], guard := none }) (v := ?_) rfl (Or.inl ⟨by rfl, ?_⟩) ?_; rotate_left; (focus (intro w hSw; (try dsimp only at hSw); go_simp; (try (with_reducible rfl)); done)); try simp only [Act.put, List.setIfInBounds_toArray, List.set_cons_zero, List.set_cons_succ])
        (refine wpM_calm (o := { dst := some 53, op := Go.Op.move (Go.Operand.tmp 1), type := 22, pos := "law.go:98", after := #[], guard := none }) (v := ?_) rfl (Or.inl ⟨by rfl, ?_⟩) ?_; rotate_left; (focus (intro w hSw; (try dsimp only at hSw); go_simp; (try (with_reducible rfl)); done)); try simp only [Act.put, List.setIfInBounds_toArray, List.set_cons_zero, List.set_cons_succ])
        (refine wpM_calm (o := { dst := some 54, op := Go.Op.move (Go.Operand.tmp 8), type := 3, pos := "law.go:98", after := #[], guard := none }) (v := ?_) rfl (Or.inl ⟨by rfl, ?_⟩) ?_; rotate_left; (focus (intro w hSw; (try dsimp only at hSw); go_simp; (try (with_reducible rfl)); done)); try simp only [Act.put, List.setIfInBounds_toArray, List.set_cons_zero, List.set_cons_succ])
        (refine wpM_calm (o := { dst := some 55, op := Go.Op.indexAddr 22 (Go.Operand.tmp 53) (Go.Operand.tmp 54), type := 0, pos := "law.go:98", after := #[{ on := 2, ground := Go.Ground.data }, { on := 3, ground := Go.Ground.data }], guard := none }) (v := ?_) rfl (Or.inl ⟨by rfl, ?_⟩) ?_; rotate_left; (focus (intro w hSw; (try dsimp only at hSw); go_simp; (try (with_reducible rfl)); done)); try simp only [Act.put, List.setIfInBounds_toArray, List.set_cons_zero, List.set_cons_succ])
        (refine wpM_calm (o := { dst := some 56, op := Go.Op.load 32 (Go.Operand.tmp 55), type := 32, pos := "law.go:98", after := #[{ on := 4, ground := Go.Ground.data }], guard := none }) (v := ?_) rfl (Or.inl ⟨by rfl, ?_⟩) ?_; rotate_left; (focus (intro w hSw; (try dsimp only at hSw); go_simp; (try (with_reducible rfl)); done)); try simp only [Act.put, List.setIfInBounds_toArray, List.set_cons_zero, List.set_cons_succ])
        refine wpM_loud1 (o := { dst := some 57, op := Go.Op.call { callee := Go.Callee.value (Go.Operand.func 10), args := #[Go.Operand.tmp 51, Go.Operand.tmp 52, Go.Operand.tmp 56], argTypes := #[23, 28, 32] }, type := 4, pos := "law.go:98", after := #[{ on := 0, ground := Go.Ground.data }, { on := 1, ground := Go.Ground.data }, { on := 5, ground := Go.Ground.data }], guard := none }) rfl (fun K hK => ?_)
        (go_simp; go_at_call 10; refine (HD.out _ HP0.out).mono ?_; rintro e w5 ⟨rfl, OL5, CL5, M5, cs5, gc5, cp5, P5, k5, _, _, _, _, gr5⟩; have H5 := Lib.hid P5; have hT5 : M5.T.length ≤ 1 + 100 * (i + 1) := (by have := gr5.2.1; omega); have hC5 : M5.C.length ≤ i + 1 := (by have := gr5.2.2.1; omega); have HG5 := Lib.hid (grow_next gr5 HG.out); have HB5 := Lib.hid (HB0.out.trans k5.below); obtain ⟨q, r, hq, cx, CW, CS, CR⟩ := pair_counts P5 (fc_bound HG5.out hii) (by omega); clear P5 k5 gr5 HD)
        try go_wp2_with fail
        refine hK.out _ _ ?_ (fun hHeld => ?_)
        · (try dsimp only); exact HCC.out.below hga HB5.out
        clear hK K
        try simp only [Act.put, List.setIfInBounds_toArray, List.set_cons_zero, List.set_cons_succ]
        refine wpM_cut (S2 := (fun w' => w'.cell? ⟨x, 1, none⟩ = some (.slice (some ⟨gc5, 0, none⟩) q cp5))) ?_ (fun hHeld => ?_)
        · (try dsimp only); exact cx
        (refine wpL_calm (o := { dst := some 58, op := Go.Op.unOp Go.UnOp.not 4 (Go.Operand.tmp 57), type := 4, pos := "law.go:98", after := #[{ on := 6, ground := Go.Ground.data }], guard := none }) (v := ?_) rfl (Or.inl ⟨by rfl, ?_⟩) ?_; rotate_left; (focus (intro w hSw; (try dsimp only at hSw); go_simp; (try (with_reducible rfl)); done)); try simp only [Act.put, List.setIfInBounds_toArray, List.set_cons_zero, List.set_cons_succ])
        (refine wpL_calm (o := { dst := some 59, op := Go.Op.move (Go.Operand.tmp 58), type := 4, pos := "law.go:98", after := #[{ on := 7, ground := Go.Ground.data }, { on := 6, ground := Go.Ground.chain }], guard := none }) (v := ?_) rfl (Or.inl ⟨by rfl, ?_⟩) ?_; rotate_left; (focus (intro w hSw; (try dsimp only at hSw); go_simp; (try (with_reducible rfl)); done)); try simp only [Act.put, List.setIfInBounds_toArray, List.set_cons_zero, List.set_cons_succ])
        first | (refine wpL_calm (o := { dst := some 60, op := Go.Op.move (Go.Operand.tmp 5), type := 23, pos := "law.go:98", after := #[{ on := 8, ground := Go.Ground.guard }], guard := some (8, false) }) (v := ?_) rfl (Or.inl ⟨by rfl, ?_⟩) ?_; rotate_left; (focus (intro w hSw; (try dsimp only at hSw); go_simp; (try (with_reducible rfl)); done)); try simp only [Act.put, List.setIfInBounds_toArray, List.set_cons_zero, List.set_cons_succ]) | (refine wpL_calm (o := { dst := some 60, op := Go.Op.move (Go.Operand.tmp 5), type := 23, pos := "law.go:98", after := #[{ on := 8, ground := Go.Ground.guard }], guard := some (8, false) }) (v := undef) rfl (Or.inr ⟨by rfl, rfl⟩) ?_; try simp only [Act.put, List.setIfInBounds_toArray, List.set_cons_zero, List.set_cons_succ])
        first | (refine wpL_calm (o := { dst := some 62, op := Go.Op.move (Go.Operand.tmp 7), type := 28, pos := "law.go:98", after := #[{ on := 8, ground := Go.Ground.guard }], guard := some (8, false) }) (v := ?_) rfl (Or.inl ⟨by rfl, ?_⟩) ?_; rotate_left; (focus (intro w hSw; (try dsimp only at hSw); go_simp; (try (with_reducible rfl)); done)); try simp only [Act.put, List.setIfInBounds_toArray, List.set_cons_zero, List.set_cons_succ]) | (refine wpL_calm (o := { dst := some 62, op := Go.Op.move (Go.Operand.tmp 7), type := 28, pos := "law.go:98", after := #[{ on := 8, ground := Go.Ground.guard }], guard := some (8, false) }) (v := undef) rfl (Or.inr ⟨by rfl, rfl⟩) ?_; try simp only [Act.put, List.setIfInBounds_toArray, List.set_cons_zero, List.set_cons_succ])
        first | (refine wpL_calm (o := { dst := some 63, op := Go.Op.nilCheck (Go.Operand.tmp 62), type := 0, pos := "law.go:98", after := #[{ on := 11, ground := Go.Ground.data }, { on := 8, ground := Go.Ground.guard }], guard := some (8, false) }) (v := ?_) rfl (Or.inl ⟨by rfl, ?_⟩) ?_; rotate_left; (focus (intro w hSw; (try dsimp only at hSw); go_simp; (try (with_reducible rfl)); done)); try simp only [Act.put, List.setIfInBounds_toArray, List.set_cons_zero, List.set_cons_succ]) | (refine wpL_calm (o := { dst := some 63, op := Go.Op.nilCheck (Go.Operand.tmp 62), type := 0, pos := "law.go:98", after := #[{ on := 11, ground := Go.Ground.data }, { on := 8, ground := Go.Ground.guard }], guard := some (8, false) }) (v := undef) rfl (Or.inr ⟨by rfl, rfl⟩) ?_; try simp only [Act.put, List.setIfInBounds_toArray, List.set_cons_zero, List.set_cons_succ])
        first | (refine wpL_calm (o := { dst := some 64, op := Go.Op.fieldAddr 36 (Go.Operand.tmp 63) 1, type := 0, pos := "law.go:98", after := #[{ on := 12, ground := Go.Ground.data }, { on := 8, ground := Go.Ground.guard }], guard := some (8, false) }) (v := ?_) rfl (Or.inl ⟨by rfl, ?_⟩) ?_; rotate_left; (focus (intro w hSw; (try dsimp only at hSw); go_simp; (try (with_reducible rfl)); done)); try simp only [Act.put, List.setIfInBounds_toArray, List.set_cons_zero, List.set_cons_succ]) | (refine wpL_calm (o := { dst := some 64, op := Go.Op.fieldAddr 36 (Go.Operand.tmp 63) 1, type := 0, pos := "law.go:98", after := #[{ on := 12, ground := Go.Ground.data }, { on := 8, ground := Go.Ground.guard }], guard := some (8, false) }) (v := undef) rfl (Or.inr ⟨by rfl, rfl⟩) ?_; try simp only [Act.put, List.setIfInBounds_toArray, List.set_cons_zero, List.set_cons_succ])
        first | (refine wpL_calm (o := { dst := some 65, op := Go.Op.load 34 (Go.Operand.tmp 64), type := 34, pos := "law.go:98", after := #[{ on := 13, ground := Go.Ground.data }, { on := 8, ground := Go.Ground.guard }], guard := some (8, false) }) (v := ?_) rfl (Or.inl ⟨by rfl, ?_⟩) ?_; rotate_left; (focus (intro w hSw; (try dsimp only at hSw); go_simp; (try (with_reducible rfl)); done)); try simp only [Act.put, List.setIfInBounds_toArray, List.set_cons_zero, List.set_cons_succ]) | (refine wpL_calm (o := { dst := some 65, op := Go.Op.load 34 (Go.Operand.tmp 64), type := 34, pos := "law.go:98", after := #[{ on := 13, ground := Go.Ground.data }, { on := 8, ground := Go.Ground.guard }], guard := some (8, false) }) (v := undef) rfl (Or.inr ⟨by rfl, rfl⟩) ?_; try simp only [Act.put, List.setIfInBounds_toArray, List.set_cons_zero, List.set_cons_succ])
        first | (refine wpL_calm (o := { dst := some 66, op := Go.Op.call { callee := Go.Callee.builtin Go.Builtin.len, args := #[Go.Operand.tmp 65], argTypes := #[34] }, type := 3, pos := "law.go:98", after := #[{ on := 14, ground := Go.Ground.data }, { on := 8, ground := Go.Ground.guard }], guard := some (8, false) }) (v := ?_) rfl (Or.inl ⟨by rfl, ?_⟩) ?_; rotate_left; (focus (intro w hSw; (try dsimp only at hSw); go_simp; (try (with_reducible rfl)); done)); try simp only [Act.put, List.setIfInBounds_toArray, List.set_cons_zero, List.set_cons_succ]) | (refine wpL_calm (o := { dst := some 66, op := Go.Op.call { callee := Go.Callee.builtin Go.Builtin.len, args := #[Go.Operand.tmp 65], argTypes := #[34] }, type := 3, pos := "law.go:98", after := #[{ on := 14, ground := Go.Ground.data }, { on := 8, ground := Go.Ground.guard }], guard := some (8, false) }) (v := undef) rfl (Or.inr ⟨by rfl, rfl⟩) ?_; try simp only [Act.put, List.setIfInBounds_toArray, List.set_cons_zero, List.set_cons_succ])
        refine wpL_loud1 (o := { dst := some 61, op := Go.Op.call { callee := Go.Callee.value (Go.Operand.func 11), args := #[Go.Operand.tmp 60], argTypes := #[23] }, type := 3, pos := "law.go:98", after := #[{ on := 9, ground := Go.Ground.data }, { on := 8, ground := Go.Ground.chain }, { on := 8, ground := Go.Ground.guard }], guard := some (8, false) }) rfl (fun K hK => ?_)
        (go_simp; go_at_call 11; refine CW.out.mono ?_; rintro e w' ⟨rfl, rfl⟩)
        try go_wp2_with fail
        refine hK.out _ _ ?_ (fun hHeld => ?_)
        · (try dsimp only); exact cx
        clear hK K
        try simp only [Act.put, List.setIfInBounds_toArray, List.set_cons_zero, List.set_cons_succ]
        first | (refine wpL_calm (o := { dst := some 67, op := Go.Op.binOp Go.BinOp.neq 3 (Go.Operand.tmp 61) (Go.Operand.tmp 66) 3, type := 4, pos := "law.go:98", after := #[{ on := 10, ground := Go.Ground.data }, { on := 15, ground := Go.Ground.data }, { on := 8, ground := Go.Ground.guard }], guard := some (8, false) }) (v := ?_) rfl (Or.inl ⟨by rfl, ?_⟩) ?_; rotate_left; (focus (intro w hSw; (try dsimp only at hSw); go_simp; (try (with_reducible rfl)); done)); try simp only [Act.put, List.setIfInBounds_toArray, List.set_cons_zero, List.set_cons_succ]) | (refine wpL_calm (o := { dst := some 67, op := Go.Op.binOp Go.BinOp.neq 3 (Go.Operand.tmp 61) (Go.Operand.tmp 66) 3, type := 4, pos := "law.go:98", after := #[{ on := 10, ground := Go.Ground.data }, { on := 15, ground := Go.Ground.data }, { on := 8, ground := Go.Ground.guard }], guard := some (8, false) }) (v := undef) rfl (Or.inr ⟨by rfl, rfl⟩) ?_; try simp only [Act.put, List.setIfInBounds_toArray, List.set_cons_zero, List.set_cons_succ])
        (refine wpL_calm (o := { dst := some 68, op := Go.Op.pick (Go.Operand.tmp 59) (Go.Operand.const (Go.Value.bool true)) (Go.Operand.tmp 67), type := 4, pos := "law.go:98", after := #[{ on := 8, ground := Go.Ground.data }, { on := 16, ground := Go.Ground.data }], guard := none }) (v := ?_) rfl (Or.inl ⟨by rfl, ?_⟩) ?_; rotate_left; (focus (intro w hSw; (try dsimp only at hSw); go_simp; (try (with_reducible rfl)); done)); try simp only [Act.put, List.setIfInBounds_toArray, List.set_cons_zero, List.set_cons_succ])
        (refine wpL_calm (o := { dst := some 69, op := Go.Op.move (Go.Operand.tmp 68), type := 4, pos := "law.go:98", after := #[{ on := 17, ground := Go.Ground.data }, { on := 10, ground := Go.Ground.chain }], guard := none }) (v := ?_) rfl (Or.inl ⟨by rfl, ?_⟩) ?_; rotate_left; (focus (intro w hSw; (try dsimp only at hSw); go_simp; (try (with_reducible rfl)); done)); try simp only [Act.put, List.setIfInBounds_toArray, List.set_cons_zero, List.set_cons_succ])
        first | (refine wpL_calm (o := { dst := some 70, op := Go.Op.move (Go.Operand.tmp 5), type := 23, pos := "law.go:98", after := #[{ on := 18, ground := Go.Ground.guard }], guard := some (18, false) }) (v := ?_) rfl (Or.inl ⟨by rfl, ?_⟩) ?_; rotate_left; (focus (intro w hSw; (try dsimp only at hSw); go_simp; (try (with_reducible rfl)); done)); try simp only [Act.put, List.setIfInBounds_toArray, List.set_cons_zero, List.set_cons_succ]) | (refine wpL_calm (o := { dst := some 70, op := Go.Op.move (Go.Operand.tmp 5), type := 23, pos := "law.go:98", after := #[{ on := 18, ground := Go.Ground.guard }], guard := some (18, false) }) (v := undef) rfl (Or.inr ⟨by rfl, rfl⟩) ?_; try simp only [Act.put, List.setIfInBounds_toArray, List.set_cons_zero, List.set_cons_succ])
        first | (refine wpL_calm (o := { dst := some 72, op := Go.Op.move (Go.Operand.tmp 7), type := 28, pos := "law.go:98", after := #[{ on := 18, ground := Go.Ground.guard }], guard := some (18, false) }) (v := ?_) rfl (Or.inl ⟨by rfl, ?_⟩) ?_; rotate_left; (focus (intro w hSw; (try dsimp only at hSw); go_simp; (try (with_reducible rfl)); done)); try simp only [Act.put, List.setIfInBounds_toArray, List.set_cons_zero, List.set_cons_succ]) | (refine wpL_calm (o := { dst := some 72, op := Go.Op.move (Go.Operand.tmp 7), type := 28, pos := "law.go:98", after := #[{ on := 18, ground := Go.Ground.guard }], guard := some (18, false) }) (v := undef) rfl (Or.inr ⟨by rfl, rfl⟩) ?_; try simp only [Act.put, List.setIfInBounds_toArray, List.set_cons_zero, List.set_cons_succ])
        refine wpL_loud1 (o := { dst := some 71, op := Go.Op.call { callee := Go.Callee.value (Go.Operand.func 12), args := #[Go.Operand.tmp 70], argTypes := #[23] }, type := 3, pos := "law.go:98", after := #[{ on := 19, ground := Go.Ground.data }, { on := 18, ground := Go.Ground.chain }, { on := 18, ground := Go.Ground.guard }], guard := some (18, false) }) rfl (fun K hK => ?_)
        (go_simp; go_at_call 12; refine (CS.out _ (Below.refl _ _)).mono ?_; rintro e w6 ⟨rfl, b6⟩; have H6 := Lib.hid (H5.out.below b6); have HB6 := Lib.hid (HB5.out.trans (b6.mono HB5.out.size)); have cy := (b6.cell (p := ⟨x, 1, none⟩) H5.out.ltx).trans cx)
        try go_wp2_with fail
        refine hK.out _ _ ?_ (fun hHeld => ?_)
        · (try dsimp only); exact cy
        clear hK K
        try simp only [Act.put, List.setIfInBounds_toArray, List.set_cons_zero, List.set_cons_succ]
        refine wpL_loud1 (o := { dst := some 73, op := Go.Op.call { callee := Go.Callee.value (Go.Operand.func 13), args := #[Go.Operand.tmp 72], argTypes := #[28] }, type := 3, pos := "law.go:98", after := #[{ on := 21, ground := Go.Ground.data }, { on := 20, ground := Go.Ground.chain }, { on := 18, ground := Go.Ground.guard }], guard := some (18, false) }) rfl (fun K hK => ?_)
        (go_simp; go_at_call 13; refine (CR.out _ b6).mono ?_; rintro e w' ⟨rfl, rfl⟩)
        try go_wp2_with fail
        refine hK.out _ _ ?_ (fun hHeld => ?_)
        · (try dsimp only); exact cy
        clear hK K
        try simp only [Act.put, List.setIfInBounds_toArray, List.set_cons_zero, List.set_cons_succ]
        first | (refine wpL_calm (o := { dst := some 74, op := Go.Op.binOp Go.BinOp.neq 3 (Go.Operand.tmp 71) (Go.Operand.tmp 73) 3, type := 4, pos := "law.go:98", after := #[{ on := 20, ground := Go.Ground.data }, { on := 22, ground := Go.Ground.data }, { on := 18, ground := Go.Ground.guard }], guard := some (18, false) }) (v := ?_) rfl (Or.inl ⟨by rfl, ?_⟩) ?_; rotate_left; (focus (intro w hSw; (try dsimp only at hSw); go_simp; (try (with_reducible rfl)); done)); try simp only [Act.put, List.setIfInBounds_toArray, List.set_cons_zero, List.set_cons_succ]) | (refine wpL_calm (o := { dst := some 74, op := Go.Op.binOp Go.BinOp.neq 3 (Go.Operand.tmp 71) (Go.Operand.tmp 73) 3, type := 4, pos := "law.go:98", after := #[{ on := 20, ground := Go.Ground.data }, { on := 22, ground := Go.Ground.data }, { on := 18, ground := Go.Ground.guard }], guard := some (18, false) }) (v := undef) rfl (Or.inr ⟨by rfl, rfl⟩) ?_; try simp only [Act.put, List.setIfInBounds_toArray, List.set_cons_zero, List.set_cons_succ])
        (refine wpL_calm (o := { dst := some 75, op := Go.Op.pick (Go.Operand.tmp 69) (Go.Operand.const (Go.Value.bool true)) (Go.Operand.tmp 74), type := 4, pos := "law.go:98", after := #[{ on := 18, ground := Go.Ground.data }, { on := 23, ground := Go.Ground.data }], guard := none }) (v := ?_) rfl (Or.inl ⟨by rfl, ?_⟩) ?_; rotate_left; (focus (intro w hSw; (try dsimp only at hSw); go_simp; (try (with_reducible rfl)); done)); try simp only [Act.put, List.setIfInBounds_toArray, List.set_cons_zero, List.set_cons_succ])
        refine wpL_nil ?_
        refine NoPanic.normal ?_
        clear CW CS CR b6 cx
        go_wp2_with fail
        go_roundw
        case rel => exact ⟨i + 1, OL5, CL5, M5, cs5, gc5, cp5, by go_num, by omega, by omega, H6, hT5, hC5, HG5, HB6⟩
        case measure => simp [intOf]; omega
      · as_aux_lemma =>
        by_cases g1 : (i : Int) < (nl : Int)
        · have g2 : ¬ (i : Int) < 30 := fun h => hgo ⟨g1, h⟩
          go_wp2_with fail
          go_ret
          exact ⟨rfl, HB.out⟩
        · go_wp2_with fail
          go_ret
          exact ⟨rfl, HB.out⟩
section
variable {H : Type} {enc : TypeId × Value → H}
theorem flatDoes_walk (a0 : Int) (v : Value) (d : DataW H) (p : List MemPlace) (w : World) (hz : (Lit.int .i64 a0).wf = true) (hv : ∃ a len cap, v = .slice a len cap) (h : DataW.Trod enc Try.prog w 0 (fun _ => true) true 22 v d p) :
    Calls Try.prog 3 #[.int .i64 a0, v] w fun e w' => e = .returned (.bool true) ∧ Below w.heap.size w w' := by
  obtain ⟨ao, cap, L, rfl, h1, h2, h3, h4⟩ := open_af hv h
  exact flatDoes_any a0 ao cap L w h3 (by omega) h4
end
end Go.Proofs.Ytaemnelfnopjdaa
