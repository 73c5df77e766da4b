/- The law PlanOf. -/
import Derived.Test.YtnlgkhggokloeaaPlS
namespace Go.Proofs.Ytnlgkhggokloeaa
open Go.ChangeShapes Go.WideShapes Go.Deep Go.RowKit
set_option linter.unusedVariables false
set_option linter.unusedSimpArgs false
attribute [local irreducible] rcA
def rowB (f : Nat → Int) (n : Nat) : List Value := (List.range n).map fun i => .int .u8 (f i)
theorem run_neq_rowb {P : Program} {t e : TypeId} {n m : Nat} (f : Nat → Int) (ht : P.underlying t = some (.array n e)) (he : P.underlying e = some (.int .u8)) (hsz : ∀ w, (sizeOf e).run P w = .ok 1 w) (hm : n = m) (w : World) :
    (binOp .neq t (.agg (rowB f m).toArray) (.agg (rowB f m).toArray)).run P w = .ok (.bool false) w := by
  subst hm
  rw [run_neq_struct, show (10000 : Nat) = 9998 + 2 from rfl, Op.equalIn]
  simp only [Sem.run_bind, run_underlying ht, Result.andThen_ok, hsz, Std.Legacy.Range.forIn_eq_forIn_range', Std.Legacy.Range.size, Nat.sub_zero, Nat.add_sub_cancel, Nat.div_one]
  have hl : ∀ i ∈ List.range' 0 n 1, i < n := fun i hi => by simpa using (List.mem_range'_1.1 hi).2
  generalize List.range' 0 n 1 = l at hl ⊢
  induction l with
  | nil => simp
  | cons i l ih =>
    have hi : i < n := hl i (by simp)
    have px : ∀ h : Nat → Int, (part e (rowB h n).toArray (i * 1)).run P w = .ok (.int .u8 (h i)) w := fun h => by
      simp [part, isAgg, run_underlying he, rowB, hi]
    have pe : (Op.equalIn (9998 + 1) e (.int .u8 (f i)) (.int .u8 (f i))).run P w = .ok (f i == f i) w := run_equalIn_int w 9998 e .u8 .u8 _ _ he
    simp only [List.forIn_cons, Sem.run_bind, px, pe, Result.andThen_ok, beq_self_eq_true, Bool.not_true, Bool.false_eq_true, if_false, Sem.run_pure]
    exact ih fun j hj => hl j (by simp [hj])
theorem size_b : ∀ w, (sizeOf 5).run Try.prog w = .ok 1 w := fun w => by kernel_rfl
theorem rootV_row (l : List UInt8) : rootV l = rowB (fun i => ((l.getD i 0).toNat : Int)) l.length := by
  unfold rootV rowB
  apply List.ext_getElem?
  intro i
  by_cases h : i < l.length
  · rw [List.getElem?_map, List.getElem?_map, List.getElem?_range h, List.getElem?_eq_getElem h]
    simp [List.getD_eq_getElem?_getD, List.getElem?_eq_getElem h]
  · rw [List.getElem?_eq_none (by simp; omega), List.getElem?_eq_none (by simp; omega)]
theorem neq_root (l : List UInt8) (hl : l.length = 32) (w : World) : (binOp .neq 30 (.agg (rootV l).toArray) (.agg (rootV l).toArray)).run Try.prog w = .ok (.bool false) w := by
  rw [rootV_row, run_neq_rowb _ Try.underlying30 Try.underlying5 size_b hl.symm w]
theorem neq_z32 (w : World) : (binOp .neq 30 (.agg z32) (.agg z32)).run Try.prog w = .ok (.bool false) w := by kernel_rfl
theorem eqg_dg : Try.prog.eqGuardType Try.prog.depth 30 = false := by kernel_rfl
theorem chkE_two {R : Rc} (h : ¬ 64 < R.ps.length) (h0 : chkE R ≠ 0) : chkE R = 2 := by
  unfold chkE at h0 ⊢
  rw [if_neg h] at h0 ⊢
  split
  · rfl
  · rename_i h1
    rw [if_neg h1] at h0
    split at h0
    · exact absurd rfl h0
    · rename_i h2; rw [if_neg h2]
theorem ofL_bad {L : List Rv} (h : ofE L ≠ 0) : ofL L = [] := by unfold ofL; rw [if_neg h]
/-- What remains to be seen of the records, once the plan was made: each one's fault, or none. -/
def TailR (w : World) (e : Ending) (w' : World) : Prop := e = .returned (.bool true) ∧ Below w.heap.size w w'
set_option maxRecDepth 100000 in
set_option maxHeartbeats 16000000 in
theorem planOf_any (ao : Option Addr) (c : Nat) (L : List Rv) (w : World) (hat : RsAt w ao L) (hn : L.length ≤ maxLen) : Calls Try.prog 3 #[.slice ao L.length c] w (TailR w) := by
  have HAT := Lib.hid hat
  have CF := Lib.hid (few_any ao c L w hat (by unfold maxLen at hn; omega))
  obtain ⟨n, hnn⟩ : ∃ n, Hid (L.length = n) := ⟨_, Lib.hid rfl⟩
  rw [hnn.out] at hn CF ⊢
  clear hat
  go_enter Try.func3, Try.ntmps3
  go_wp2_with fail
  refine CF.out.mono ?_
  rintro e w1 ⟨b, rfl, HF, hb1⟩
  have HB1 := Lib.hid hb1
  clear CF hb1
  cases b
  · as_aux_lemma =>
    go_wp2_with fail
    refine (awake32 w1).mono ?_
    rintro e w2 ⟨rfl, hb2⟩
    have HB2 := Lib.hid (HB1.out.trans (hb2.mono HB1.out.size))
    go_wp2_with fail
    go_ret
    exact ⟨rfl, HB2.out⟩
  · as_aux_lemma =>
    have hn10 : n ≤ 10 := by have := (HF.out rfl).1; rwa [hnn.out] at this
    have hal := allP_few (HF.out rfl)
    clear HF hn
    have CO := Lib.hid (of_any ao c L w1 (HAT.out.below HB1.out) (by rw [hnn.out]; omega) (by omega))
    unfold OfR at CO
    obtain ⟨E, HE⟩ : ∃ E, Hid (ofE L = E) := ⟨_, Lib.hid rfl⟩
    obtain ⟨P, HP⟩ : ∃ P, Hid (ofL L = P) := ⟨_, Lib.hid rfl⟩
    rw [hnn.out, HE.out, HP.out] at CO
    go_wp2_with fail
    refine CO.out.mono ?_
    rintro e w2 ⟨a2, c2, rfl, hpu2, hb2⟩
    have HB2 := Lib.hid (HB1.out.trans (hb2.mono HB1.out.size))
    have HP2 := Lib.hid hpu2
    have CR := Lib.hid (root_any ao c L w2 (HAT.out.below HB2.out) (by rw [hnn.out]; omega))
    unfold RootR at CR
    rw [hnn.out] at CR
    clear CO HB1 hb2 hpu2
    obtain ⟨m, hmm⟩ : ∃ m, Hid (P.length = m) := ⟨_, Lib.hid rfl⟩
    have hrl : (rootL L).length = 32 := by
      unfold rootL
      split
      · rename_i hp
        rw [rootV_len, (HAT.out.1 _ (List.getElem_mem (show L.length - 1 < L.length by omega))).root]
      · with_unfolding_all rfl
    have hone : (rootL L).toArray.all (·.oneCell') = true := by
      unfold rootL
      split
      · exact rootV_one _
      · with_unfolding_all exact z32_one
    have hsz2 : (Try.prog.info? 30).map (·.size) = some (rootL L).toArray.size := by rw [List.size_toArray, hrl]; kernel_rfl
    have hlen2 : (rootL L).toArray.size = 32 := by rw [List.size_toArray, hrl]
    rw [hmm.out]
    go_wp2_with fail
    refine CR.out.mono ?_
    rintro e w3 ⟨rfl, hb3⟩
    have HB3 := Lib.hid (HB2.out.trans (hb3.mono HB2.out.size))
    have HP3 := Lib.hid (HP2.out.below hb3)
    clear CR HB2 hb3 HP2
    go_upto_region 5 with (refine wpList_store_new rfl 30 _ _ rfl w3.heap.size (rootL L).toArray rfl rfl 30 _ (heap_alloc_new _ _) hsz2 (by rw [hlen2]; rfl) hone ?_; intro w4 hrow4 hbel4 hs4)
    have b34 := (((Below.refl w3.heap.size w3).alloc (Nat.le_refl _) _).trans hbel4)
    have HB4 := Lib.hid (HB3.out.trans (b34.mono HB3.out.size))
    have HP4 := Lib.hid (HP3.out.below b34)
    have hr4 : w4.rangeAt w3.heap.size 0 (rootL L) := fun j u hu => by
      rw [cell_of_row w4 w3.heap.size (0 + j) _ _ _ hrow4, Nat.zero_add, List.getElem?_toArray]; exact hu
    clear HB3 HP3 hbel4 hs4 b34 hsz2 hlen2 hone hrow4
    generalize w3.heap.size = gd at *
    by_cases hp : 0 < L.length
    · as_aux_lemma =>
      have hil : L.length - 1 < L.length := by omega
      have HOK := HAT.out.1 _ (List.getElem_mem hil)
      obtain ⟨g, o, rfl, hg, hc⟩ := HAT.out.2 (by omega)
      have hr0 := range_below (rootV_range (hc _ hil) HOK.root) hg hg HB4.out
      have HL : rootL L = rootV (L[L.length - 1]'hil).r.root := by unfold rootL; rw [dif_pos hp]
      have HRE : rootE L = 0 := by unfold rootE; rw [if_pos hp]
      have hneq := neq_root (L[L.length - 1]'hil).r.root HOK.root
      rw [HL] at hr4 hrl ⊢
      rw [HRE]
      clear hc HOK HL HRE
      generalize (L[L.length - 1]'hil).r.root = rt at *
      generalize rootV rt = cs at *
      have hsz : (Try.prog.info? 30).map (·.size) = some cs.length := by rw [hrl]; kernel_rfl
      have e1 : ((n : Int) == 0) = false := by have := hnn.out; simp; omega
      have e2 : (n : Int) - 1 = ((n - 1 : Nat) : Int) := by have := hnn.out; omega
      have e3 : (0 : Int) < (n : Int) := by have := hnn.out; omega
      have e4 : ¬ (n : Int) = 0 := by omega
      have e6 : 0 < n := by omega
      have e7 : ¬ n = 0 := by omega
      have hk0 : n - 1 < n := by have := hnn.out; omega
      rw [hnn.out] at hr0
      obtain ⟨k, hk⟩ : ∃ k, n - 1 = k := ⟨_, rfl⟩
      rw [hk] at hr0 e2 hk0
      have e5 : (k : Int) < (n : Int) := by omega
      have hwk : IntKind.i64.wrap (k : Int) = (k : Int) := by rw [IntKind.wrap_i64]; omega
      clear hk
      refine wp_region_lin (S := (fun w' => w'.rangeAt gd 0 cs ∧ w'.rangeAt g (o + k * 34 + 1) cs)) [(0, true), (1, true), (2, true), (3, true), (4, true), (5, true), (6, true), (7, true), (8, true), (9, true), (10, true), (11, true), (12, true), (13, true), (14, true), (15, true), (16, true), (17, true), (18, true), (19, true), (20, true), (21, true), (22, true), (23, true), (24, true), (25, true), (26, true), (27, true), (28, true), (29, true), (30, true), (31, true)] (by kernel_rfl) (by kernel_rfl) rfl (by kernel_rfl) ?_ (fun hHeld => ?_)
      · (try dsimp only); exact ⟨hr4, hr0⟩
      refine wpL_calm (o := { dst := some 23, op := Go.Op.move (Go.Operand.tmp 0), type := 22, pos := "law.go:60", after := #[], guard := none }) (v := ?_) rfl (Or.inl ⟨by rfl, ?_⟩) ?_; rotate_left; (focus (intro w hSw; (try dsimp only at hSw); go_simp; (try (with_reducible rfl)); done)); try simp only [Act.put, List.setIfInBounds_toArray, List.set_cons_zero, List.set_cons_succ]
      refine wpL_calm (o := { dst := some 24, op := Go.Op.call { callee := Go.Callee.builtin Go.Builtin.len, args := #[Go.Operand.tmp 23], argTypes := #[22] }, type := 3, pos := "law.go:60", after := #[{ on := 0, ground := Go.Ground.data }], guard := none }) (v := ?_) rfl (Or.inl ⟨by rfl, ?_⟩) ?_; rotate_left; (focus (intro w hSw; (try dsimp only at hSw); go_simp; (try (with_reducible rfl)); done)); try simp only [Act.put, List.setIfInBounds_toArray, List.set_cons_zero, List.set_cons_succ]
      refine wpL_calm (o := { dst := some 25, op := Go.Op.binOp Go.BinOp.eql 3 (Go.Operand.tmp 24) (Go.Operand.const (Go.Value.int Go.IntKind.i64 0)) 3, type := 4, pos := "law.go:60", after := #[{ on := 1, ground := Go.Ground.data }], guard := none }) (v := ?_) rfl (Or.inl ⟨by rfl, ?_⟩) ?_; rotate_left; (focus (intro w hSw; (try dsimp only at hSw); go_simp; (try (with_reducible rfl)); done)); try simp only [Act.put, List.setIfInBounds_toArray, List.set_cons_zero, List.set_cons_succ]
      refine wpL_calm (o := { dst := some 26, op := Go.Op.move (Go.Operand.tmp 25), type := 4, pos := "law.go:60", after := #[{ on := 2, ground := Go.Ground.data }], guard := none }) (v := ?_) rfl (Or.inl ⟨by rfl, ?_⟩) ?_; rotate_left; (focus (intro w hSw; (try dsimp only at hSw); go_simp; (try (with_reducible rfl)); done)); try simp only [Act.put, List.setIfInBounds_toArray, List.set_cons_zero, List.set_cons_succ]
      refine wpL_calm (o := { dst := some 27, op := Go.Op.load 30 (Go.Operand.tmp 5), type := 30, pos := "law.go:60", after := #[{ on := 3, ground := Go.Ground.guard }], guard := some (3, true) }) (v := undef) rfl (Or.inr ⟨by rfl, rfl⟩) ?_; try simp only [Act.put, List.setIfInBounds_toArray, List.set_cons_zero, List.set_cons_succ]
      refine wpL_calm (o := { dst := some 28, op := Go.Op.build 30 #[], type := 30, pos := "law.go:60", after := #[{ on := 3, ground := Go.Ground.guard }], guard := some (3, true) }) (v := undef) rfl (Or.inr ⟨by rfl, rfl⟩) ?_; try simp only [Act.put, List.setIfInBounds_toArray, List.set_cons_zero, List.set_cons_succ]
      refine wpL_calm (o := { dst := some 29, op := Go.Op.binOp Go.BinOp.neq 30 (Go.Operand.tmp 27) (Go.Operand.tmp 28) 30, type := 4, pos := "law.go:60", after := #[{ on := 4, ground := Go.Ground.data }, { on := 5, ground := Go.Ground.data }, { on := 3, ground := Go.Ground.guard }], guard := some (3, true) }) (v := undef) rfl (Or.inr ⟨by rfl, rfl⟩) ?_; try simp only [Act.put, List.setIfInBounds_toArray, List.set_cons_zero, List.set_cons_succ]
      refine wpL_calm (o := { dst := some 30, op := Go.Op.move (Go.Operand.tmp 29), type := 4, pos := "law.go:60", after := #[{ on := 6, ground := Go.Ground.data }, { on := 3, ground := Go.Ground.chain }, { on := 3, ground := Go.Ground.guard }], guard := some (3, true) }) (v := undef) rfl (Or.inr ⟨by rfl, rfl⟩) ?_; try simp only [Act.put, List.setIfInBounds_toArray, List.set_cons_zero, List.set_cons_succ]
      refine wpL_calm (o := { dst := some 31, op := Go.Op.move (Go.Operand.tmp 6), type := 26, pos := "law.go:60", after := #[{ on := 7, ground := Go.Ground.guard }], guard := some (7, false) }) (v := undef) rfl (Or.inr ⟨by rfl, rfl⟩) ?_; try simp only [Act.put, List.setIfInBounds_toArray, List.set_cons_zero, List.set_cons_succ]
      refine wpL_calm (o := { dst := some 32, op := Go.Op.binOp Go.BinOp.neq 26 (Go.Operand.tmp 31) (Go.Operand.const (Go.Value.int Go.IntKind.i64 7)) 26, type := 4, pos := "law.go:60", after := #[{ on := 8, ground := Go.Ground.data }, { on := 7, ground := Go.Ground.guard }], guard := some (7, false) }) (v := undef) rfl (Or.inr ⟨by rfl, rfl⟩) ?_; try simp only [Act.put, List.setIfInBounds_toArray, List.set_cons_zero, List.set_cons_succ]
      refine wpL_calm (o := { dst := some 33, op := Go.Op.pick (Go.Operand.tmp 30) (Go.Operand.const (Go.Value.bool true)) (Go.Operand.tmp 32), type := 4, pos := "law.go:60", after := #[{ on := 7, ground := Go.Ground.data }, { on := 9, ground := Go.Ground.data }, { on := 3, ground := Go.Ground.guard }], guard := some (3, true) }) (v := undef) rfl (Or.inr ⟨by rfl, rfl⟩) ?_; try simp only [Act.put, List.setIfInBounds_toArray, List.set_cons_zero, List.set_cons_succ]
      refine wpL_calm (o := { dst := some 34, op := Go.Op.pick (Go.Operand.tmp 26) (Go.Operand.tmp 33) (Go.Operand.const (Go.Value.bool false)), type := 4, pos := "law.go:60", after := #[{ on := 3, ground := Go.Ground.data }, { on := 10, ground := Go.Ground.data }], guard := none }) (v := ?_) rfl (Or.inl ⟨by rfl, ?_⟩) ?_; rotate_left; (focus (intro w hSw; (try dsimp only at hSw); go_simp; (try (with_reducible rfl)); done)); try simp only [Act.put, List.setIfInBounds_toArray, List.set_cons_zero, List.set_cons_succ]
      refine wpL_calm (o := { dst := some 35, op := Go.Op.move (Go.Operand.tmp 34), type := 4, pos := "law.go:60", after := #[{ on := 11, ground := Go.Ground.data }, { on := 7, ground := Go.Ground.chain }], guard := none }) (v := ?_) rfl (Or.inl ⟨by rfl, ?_⟩) ?_; rotate_left; (focus (intro w hSw; (try dsimp only at hSw); go_simp; (try (with_reducible rfl)); done)); try simp only [Act.put, List.setIfInBounds_toArray, List.set_cons_zero, List.set_cons_succ]
      refine wpL_calm (o := { dst := some 36, op := Go.Op.move (Go.Operand.tmp 0), type := 22, pos := "law.go:60", after := #[{ on := 12, ground := Go.Ground.guard }], guard := some (12, false) }) (v := ?_) rfl (Or.inl ⟨by rfl, ?_⟩) ?_; rotate_left; (focus (intro w hSw; (try dsimp only at hSw); go_simp; (try (with_reducible rfl)); done)); try simp only [Act.put, List.setIfInBounds_toArray, List.set_cons_zero, List.set_cons_succ]
      refine wpL_calm (o := { dst := some 37, op := Go.Op.call { callee := Go.Callee.builtin Go.Builtin.len, args := #[Go.Operand.tmp 36], argTypes := #[22] }, type := 3, pos := "law.go:60", after := #[{ on := 13, ground := Go.Ground.data }, { on := 12, ground := Go.Ground.guard }], guard := some (12, false) }) (v := ?_) rfl (Or.inl ⟨by rfl, ?_⟩) ?_; rotate_left; (focus (intro w hSw; (try dsimp only at hSw); go_simp; (try (with_reducible rfl)); done)); try simp only [Act.put, List.setIfInBounds_toArray, List.set_cons_zero, List.set_cons_succ]
      refine wpL_calm (o := { dst := some 38, op := Go.Op.binOp Go.BinOp.gtr 3 (Go.Operand.tmp 37) (Go.Operand.const (Go.Value.int Go.IntKind.i64 0)) 3, type := 4, pos := "law.go:60", after := #[{ on := 14, ground := Go.Ground.data }, { on := 12, ground := Go.Ground.guard }], guard := some (12, false) }) (v := ?_) rfl (Or.inl ⟨by rfl, ?_⟩) ?_; rotate_left; (focus (intro w hSw; (try dsimp only at hSw); go_simp; (try (with_reducible rfl)); done)); try simp only [Act.put, List.setIfInBounds_toArray, List.set_cons_zero, List.set_cons_succ]
      refine wpL_calm (o := { dst := some 39, op := Go.Op.move (Go.Operand.tmp 38), type := 4, pos := "law.go:60", after := #[{ on := 15, ground := Go.Ground.data }, { on := 12, ground := Go.Ground.chain }, { on := 12, ground := Go.Ground.guard }], guard := some (12, false) }) (v := ?_) rfl (Or.inl ⟨by rfl, ?_⟩) ?_; rotate_left; (focus (intro w hSw; (try dsimp only at hSw); go_simp; (try (with_reducible rfl)); done)); try simp only [Act.put, List.setIfInBounds_toArray, List.set_cons_zero, List.set_cons_succ]
      refine wpL_calm (o := { dst := some 40, op := Go.Op.load 30 (Go.Operand.tmp 5), type := 30, pos := "law.go:60", after := #[{ on := 16, ground := Go.Ground.guard }], guard := some (16, true) }) rfl (yieldsIf_load_mid (by rfl) _ _ rfl gd 0 rfl cs _ (fun _ h => h.1) Try.underlying30 rfl hsz) ?_
      try simp only [Act.put, List.setIfInBounds_toArray, List.set_cons_zero, List.set_cons_succ]
      refine wpL_calm (o := { dst := some 41, op := Go.Op.move (Go.Operand.tmp 0), type := 22, pos := "law.go:60", after := #[{ on := 16, ground := Go.Ground.guard }], guard := some (16, true) }) (v := ?_) rfl (Or.inl ⟨by rfl, ?_⟩) ?_; rotate_left; (focus (intro w hSw; (try dsimp only at hSw); go_simp; (try (with_reducible rfl)); done)); try simp only [Act.put, List.setIfInBounds_toArray, List.set_cons_zero, List.set_cons_succ]
      refine wpL_calm (o := { dst := some 42, op := Go.Op.move (Go.Operand.tmp 0), type := 22, pos := "law.go:60", after := #[{ on := 16, ground := Go.Ground.guard }], guard := some (16, true) }) (v := ?_) rfl (Or.inl ⟨by rfl, ?_⟩) ?_; rotate_left; (focus (intro w hSw; (try dsimp only at hSw); go_simp; (try (with_reducible rfl)); done)); try simp only [Act.put, List.setIfInBounds_toArray, List.set_cons_zero, List.set_cons_succ]
      refine wpL_calm (o := { dst := some 43, op := Go.Op.call { callee := Go.Callee.builtin Go.Builtin.len, args := #[Go.Operand.tmp 42], argTypes := #[22] }, type := 3, pos := "law.go:60", after := #[{ on := 19, ground := Go.Ground.data }, { on := 16, ground := Go.Ground.guard }], guard := some (16, true) }) (v := ?_) rfl (Or.inl ⟨by rfl, ?_⟩) ?_; rotate_left; (focus (intro w hSw; (try dsimp only at hSw); go_simp; (try (with_reducible rfl)); done)); try simp only [Act.put, List.setIfInBounds_toArray, List.set_cons_zero, List.set_cons_succ]
      refine wpL_calm (o := { dst := some 44, op := Go.Op.binOp Go.BinOp.sub 3 (Go.Operand.tmp 43) (Go.Operand.const (Go.Value.int Go.IntKind.i64 1)) 3, type := 3, pos := "law.go:60", after := #[{ on := 20, ground := Go.Ground.data }, { on := 16, ground := Go.Ground.guard }], guard := some (16, true) }) (v := ?_) rfl (Or.inl ⟨by rfl, ?_⟩) ?_; rotate_left; (focus (intro w hSw; (try dsimp only at hSw); go_simp; (try (with_reducible rfl)); done)); try simp only [Act.put, List.setIfInBounds_toArray, List.set_cons_zero, List.set_cons_succ]
      refine wpL_calm (o := { dst := some 45, op := Go.Op.indexAddr 22 (Go.Operand.tmp 41) (Go.Operand.tmp 44), type := 0, pos := "law.go:60", after := #[{ on := 18, ground := Go.Ground.data }, { on := 21, ground := Go.Ground.data }, { on := 16, ground := Go.Ground.guard }], guard := some (16, true) }) (v := ?_) rfl (Or.inl ⟨by rfl, ?_⟩) ?_; rotate_left; (focus (intro w hSw; (try dsimp only at hSw); go_simp; (try (with_reducible rfl)); done)); try simp only [Act.put, List.setIfInBounds_toArray, List.set_cons_zero, List.set_cons_succ]
      refine wpL_calm (o := { dst := some 46, op := Go.Op.fieldAddr 34 (Go.Operand.tmp 45) 1, type := 0, pos := "law.go:60", after := #[{ on := 22, ground := Go.Ground.data }, { on := 16, ground := Go.Ground.guard }], guard := some (16, true) }) (v := ?_) rfl (Or.inl ⟨by rfl, ?_⟩) ?_; rotate_left; (focus (intro w hSw; (try dsimp only at hSw); go_simp; (try (with_reducible rfl)); done)); try simp only [Act.put, List.setIfInBounds_toArray, List.set_cons_zero, List.set_cons_succ]
      refine wpL_calm (o := { dst := some 47, op := Go.Op.load 30 (Go.Operand.tmp 46), type := 30, pos := "law.go:60", after := #[{ on := 23, ground := Go.Ground.data }, { on := 16, ground := Go.Ground.guard }], guard := some (16, true) }) rfl (yieldsIf_load_mid (by rfl) _ _ rfl g (o + k * 34 + 1) rfl cs _ (fun _ h => h.2) Try.underlying30 rfl hsz) ?_
      try simp only [Act.put, List.setIfInBounds_toArray, List.set_cons_zero, List.set_cons_succ]
      refine wpL_calm (o := { dst := some 48, op := Go.Op.binOp Go.BinOp.neq 30 (Go.Operand.tmp 40) (Go.Operand.tmp 47) 30, type := 4, pos := "law.go:60", after := #[{ on := 17, ground := Go.Ground.data }, { on := 24, ground := Go.Ground.data }, { on := 16, ground := Go.Ground.guard }], guard := some (16, true) }) (v := ?_) rfl (Or.inl ⟨by rfl, ?_⟩) ?_; rotate_left; (focus (intro w hSw; (try dsimp only at hSw); go_simp; (try (with_reducible rfl)); done)); try simp only [Act.put, List.setIfInBounds_toArray, List.set_cons_zero, List.set_cons_succ]
      refine wpL_calm (o := { dst := some 49, op := Go.Op.move (Go.Operand.tmp 48), type := 4, pos := "law.go:60", after := #[{ on := 25, ground := Go.Ground.data }, { on := 16, ground := Go.Ground.chain }, { on := 16, ground := Go.Ground.guard }], guard := some (16, true) }) (v := ?_) rfl (Or.inl ⟨by rfl, ?_⟩) ?_; rotate_left; (focus (intro w hSw; (try dsimp only at hSw); go_simp; (try (with_reducible rfl)); done)); try simp only [Act.put, List.setIfInBounds_toArray, List.set_cons_zero, List.set_cons_succ]
      refine wpL_calm (o := { dst := some 50, op := Go.Op.move (Go.Operand.tmp 6), type := 26, pos := "law.go:60", after := #[{ on := 26, ground := Go.Ground.guard }], guard := some (26, false) }) (v := ?_) rfl (Or.inl ⟨by rfl, ?_⟩) ?_; rotate_left; (focus (intro w hSw; (try dsimp only at hSw); go_simp; (try (with_reducible rfl)); done)); try simp only [Act.put, List.setIfInBounds_toArray, List.set_cons_zero, List.set_cons_succ]
      refine wpL_calm (o := { dst := some 51, op := Go.Op.binOp Go.BinOp.neq 26 (Go.Operand.tmp 50) (Go.Operand.const (Go.Value.int Go.IntKind.i64 0)) 26, type := 4, pos := "law.go:60", after := #[{ on := 27, ground := Go.Ground.data }, { on := 26, ground := Go.Ground.guard }], guard := some (26, false) }) (v := ?_) rfl (Or.inl ⟨by rfl, ?_⟩) ?_; rotate_left; (focus (intro w hSw; (try dsimp only at hSw); go_simp; (try (with_reducible rfl)); done)); try simp only [Act.put, List.setIfInBounds_toArray, List.set_cons_zero, List.set_cons_succ]
      refine wpL_calm (o := { dst := some 52, op := Go.Op.pick (Go.Operand.tmp 49) (Go.Operand.const (Go.Value.bool true)) (Go.Operand.tmp 51), type := 4, pos := "law.go:60", after := #[{ on := 26, ground := Go.Ground.data }, { on := 28, ground := Go.Ground.data }, { on := 16, ground := Go.Ground.guard }], guard := some (16, true) }) (v := ?_) rfl (Or.inl ⟨by rfl, ?_⟩) ?_; rotate_left; (focus (intro w hSw; (try dsimp only at hSw); go_simp; (try (with_reducible rfl)); done)); try simp only [Act.put, List.setIfInBounds_toArray, List.set_cons_zero, List.set_cons_succ]
      refine wpL_calm (o := { dst := some 53, op := Go.Op.pick (Go.Operand.tmp 39) (Go.Operand.tmp 52) (Go.Operand.const (Go.Value.bool false)), type := 4, pos := "law.go:60", after := #[{ on := 16, ground := Go.Ground.data }, { on := 29, ground := Go.Ground.data }, { on := 12, ground := Go.Ground.guard }], guard := some (12, false) }) (v := ?_) rfl (Or.inl ⟨by rfl, ?_⟩) ?_; rotate_left; (focus (intro w hSw; (try dsimp only at hSw); go_simp; (try (with_reducible rfl)); done)); try simp only [Act.put, List.setIfInBounds_toArray, List.set_cons_zero, List.set_cons_succ]
      refine wpL_calm (o := { dst := some 54, op := Go.Op.pick (Go.Operand.tmp 35) (Go.Operand.const (Go.Value.bool true)) (Go.Operand.tmp 53), type := 4, pos := "law.go:60", after := #[{ on := 12, ground := Go.Ground.data }, { on := 30, ground := Go.Ground.data }], guard := none }) (v := ?_) rfl (Or.inl ⟨by rfl, ?_⟩) ?_; rotate_left; (focus (intro w hSw; (try dsimp only at hSw); go_simp; (try (with_reducible rfl)); done)); try simp only [Act.put, List.setIfInBounds_toArray, List.set_cons_zero, List.set_cons_succ]
      refine wpL_nil ?_
      refine NoPanic.normal ?_
      clear hwk hr4 hr0 hneq hsz hHeld e1 e2 e3 e4 e5 e6 e7 hk0 hrl
      have HB5 := Lib.hid HB4.out.drew
      have HP5 : Hid (PuAt w4.drew a2 P) := HP4
      clear HB4 HP4
      generalize w4.drew = w5 at *
      go_wp2_with fail
      go_loopw [7] (fun s7 wi => ∃ i : Nat, s7 = .int .i64 (i : Int) ∧ i ≤ n ∧ Hid (ofE L = ofE (L.drop i)) ∧ Hid (Below w5.heap.size w5 wi)) (fun s7 _ => n - (intOf s7).toNat)
      case atStart => exact ⟨0, rfl, by omega, Lib.hid rfl, Lib.hid (Below.refl _ _)⟩
      case round =>
        obtain ⟨i, rfl, hi, HX, HB⟩ := hrel
        by_cases hlt : i < n
        · as_aux_lemma =>
          have hli : (i : Int) < (n : Int) := by omega
          have hil : i < L.length := by rw [hnn.out]; exact hlt
          have HOK := HAT.out.1 _ (List.getElem_mem hil)
          obtain ⟨g2, o2, eao, hg, hc⟩ := HAT.out.2 (by omega)
          injection eao with eao
          injection eao with eg eo
          subst eg eo
          have HB0 := HB5.out.trans (HB.out.mono HB5.out.size)
          have hr0 := range_below (hc i hil) hg hg HB0
          have c33 := (HB0.cell (p := ⟨g, o + i * 34 + 33, none⟩) hg).trans ((hc i hil) 33 _ (rvL_33 HOK))
          have HSZ := Lib.hid (rv_size HOK)
          have HPU := Lib.hid (HOK.puts.below HB0)
          have hcap := HOK.cap
          have hmax := HOK.max
          have hroot := HOK.root
          have HF1 := Lib.hid (ofE_at HX.out hil).1
          have HF2 := Lib.hid (ofE_at HX.out hil).2
          unfold rvS at c33
          clear hc HOK HX
          generalize L[i] = z at *
          obtain ⟨r, za, zc⟩ := z
          dsimp only at *
          have HARR := Lib.hid (rvL_arr ⟨r, za, zc⟩)
          obtain ⟨cs, hcs⟩ : ∃ cs, rvL ⟨r, za, zc⟩ = cs := ⟨_, rfl⟩
          rw [hcs] at hr0 HSZ HARR
          unfold rvS at HARR
          dsimp only at HARR
          obtain ⟨q, hq⟩ : ∃ q, Hid (r.ps.length = q) := ⟨_, Lib.hid rfl⟩
          rw [hq.out] at c33 HARR hcap
          clear hcs
          by_cases h64 : 64 < q
          · as_aux_lemma =>
            have h64i : (64 : Int) < (q : Int) := by omega
            have hE4 : E = 4 := by rw [← HE.out, HF1.out (by rw [chkE_big (by rw [hq.out]; exact h64)]; decide), chkE_big (by rw [hq.out]; exact h64)]
            have hP0 : P = [] := by rw [← HP.out]; exact ofL_bad (by rw [HE.out, hE4]; decide)
            have hm0 : m = 0 := by rw [← hmm.out, hP0]; rfl
            subst hE4 hm0
            clear HF1 HF2 HP hP0 hmm HP5
            go_wp2_with fail
            refine (awake32 wr).mono ?_
            rintro e w6 ⟨rfl, hb6⟩
            have HB6 := Lib.hid (HB0.trans (hb6.mono HB0.size))
            clear hb6 HB0 HB
            go_wp2_with fail
            go_ret
            exact ⟨by first | rfl | simp, HB6.out⟩
          · as_aux_lemma =>
            have h64i : ¬ (64 : Int) < (q : Int) := by omega
            have CK := Lib.hid (right_any r za q zc wr hroot hq.out (by omega) (ptAt_of HPU.out))
            have HRC : Hid (rightP r ↔ chkE r = 0) := Lib.hid (right_chk (by rw [hq.out]; omega))
            have HC2 : Hid (chkE r ≠ 0 → chkE r = 2) := Lib.hid (chkE_two (by rw [hq.out]; exact h64))
            go_wp2_with (refine wpList_load_mid rfl 34 _ rfl g (o + i * 34) rfl cs _ hr0 Try.underlying34 rfl HSZ.out ?_; rw [HARR.out])
            refine CK.out.mono ?_
            rintro e w6 ⟨rfl, hb6⟩
            have HB6 := Lib.hid (HB.out.trans (hb6.mono HB.out.size))
            have HB60 := Lib.hid (HB0.trans (hb6.mono HB0.size))
            clear CK hb6 hr0 HSZ HARR HPU HB c33
            by_cases hk : chkE r = 0
            · have hd : decide (rightP r) = true := decide_eq_true (HRC.out.2 hk)
              rw [hd]
              have HF3 := Lib.hid (HF2.out hk)
              clear HF1 HF2 HRC HC2 hd hk
              go_wp2_with fail
              go_roundw
              case rel => exact ⟨i + 1, by go_num, by omega, HF3, HB6⟩
              case measure => simp [intOf]; omega
            · have hd : decide (rightP r) = false := decide_eq_false (fun h => hk (HRC.out.1 h))
              rw [hd]
              have hE2 : E = 2 := by rw [← HE.out, HF1.out hk, HC2.out hk]
              have hP0 : P = [] := by rw [← HP.out]; exact ofL_bad (by rw [HE.out, hE2]; decide)
              have hm0 : m = 0 := by rw [← hmm.out, hP0]; rfl
              subst hE2 hm0
              clear HF1 HF2 HRC HC2 hd HP hP0 hmm HP5
              go_wp2_with fail
              refine (awake32 w6).mono ?_
              rintro e w7 ⟨rfl, hb7⟩
              have HB7 := Lib.hid (HB60.out.trans (hb7.mono HB60.out.size))
              clear hb7 HB0 HB6 HB60
              go_wp2_with fail
              go_ret
              exact ⟨by first | rfl | simp, HB7.out⟩
        · as_aux_lemma =>
          have hli : ¬ (i : Int) < (n : Int) := by omega
          have hE0 : E = 0 := by rw [← HE.out]; exact ofE_end HX.out (by rw [hnn.out]; omega)
          subst hE0
          have HPE : Hid (P = setAll [] (allP L)) := Lib.hid (by rw [← HP.out]; exact ofL_eq HE.out)
          have HB6 := Lib.hid (HB5.out.trans (HB.out.mono HB5.out.size))
          have HP6 := Lib.hid (HP5.out.below HB.out)
          clear HB HP5 HB5 HX
          go_wp2_with fail
          refine (awake32 wr).mono ?_
          rintro e w7 ⟨rfl, hb7⟩
          have HB7 := Lib.hid (HB6.out.trans (hb7.mono HB6.out.size))
          have HP7 := Lib.hid (HP6.out.below hb7)
          have CA := Lib.hid (rall_any _ c L w7 (HAT.out.below HB7.out) (by rw [hnn.out]; omega) (by omega))
          rw [hnn.out] at CA
          clear HB6 HP6 hb7
          go_wp2_with fail
          refine CA.out.mono ?_
          rintro e w8 ⟨a8, c8, rfl, hpu8, hb8⟩
          have HB8 := Lib.hid (HB7.out.trans (hb8.mono HB7.out.size))
          have HP8 := Lib.hid (HP7.out.below hb8)
          have CS := Lib.hid (rof_any a8 c8 (allP L) w8 hpu8 (by omega))
          rw [← HPE.out] at CS
          obtain ⟨na, hna⟩ : ∃ na, (allP L).length = na := ⟨_, rfl⟩
          rw [hna] at CS ⊢
          clear CA HB7 HP7 hb8 hpu8
          go_wp2_with fail
          refine CS.out.mono ?_
          rintro e w9 ⟨a9, c9, rfl, hpu9, hb9⟩
          have HB9 := Lib.hid (HB8.out.trans (hb9.mono HB8.out.size))
          have HP9 := Lib.hid (HP8.out.below hb9)
          have hm9 : m ≤ 10000 := by have := setAll_len [] (allP L); rw [← HPE.out, hmm.out] at this; simp at this; omega
          have CQ := Lib.hid (osame_any P P a2 a9 m c2 m c9 w9 hmm.out hmm.out (by omega) (by omega) HP9.out hpu9)
          rw [decide_eq_true rfl] at CQ
          rw [hmm.out]
          clear CS HB8 HP8 HP9 hb9 hpu9
          go_wp2_with fail
          refine CQ.out.mono ?_
          rintro e w10 ⟨rfl, hb10⟩
          have HB10 := Lib.hid (HB9.out.trans (hb10.mono HB9.out.size))
          clear CQ hb10 HB9
          go_wp2_with fail
          go_ret
          exact ⟨by first | rfl | simp, HB10.out⟩
    · as_aux_lemma =>
      have hn0 : n = 0 := by have := hnn.out; omega
      have HL : rootL L = z32.toList := by unfold rootL; rw [dif_neg hp]
      have HRE : rootE L = 7 := by unfold rootE; rw [if_neg hp]
      rw [HL] at hr4
      rw [HL, HRE]
      have hneq := neq_z32
      have hb := build_z32
      have ez : z32.toList.toArray = z32 := by simp
      have hsz : (Try.prog.info? 30).map (·.size) = some z32.toList.length := by rw [Array.length_toList, z32_size]; kernel_rfl
      subst hn0
      refine wp_region_lin (S := (fun w' => w'.rangeAt gd 0 z32.toList)) [(0, true), (1, true), (2, true), (3, true), (4, true), (5, true), (6, true), (7, true), (8, true), (9, true), (10, true), (11, true), (12, true), (13, true), (14, true), (15, true), (16, true), (17, true), (18, true), (19, true), (20, true), (21, true), (22, true), (23, true), (24, true), (25, true), (26, true), (27, true), (28, true), (29, true), (30, true), (31, true)] (by kernel_rfl) (by kernel_rfl) rfl (by kernel_rfl) ?_ (fun hHeld => ?_)
      · (try dsimp only); exact hr4
      refine wpL_calm (o := { dst := some 23, op := Go.Op.move (Go.Operand.tmp 0), type := 22, pos := "law.go:60", after := #[], guard := none }) (v := ?_) rfl (Or.inl ⟨by rfl, ?_⟩) ?_; rotate_left; (focus (intro w hSw; (try dsimp only at hSw); go_simp; (try (with_reducible rfl)); done)); try simp only [Act.put, List.setIfInBounds_toArray, List.set_cons_zero, List.set_cons_succ]
      refine wpL_calm (o := { dst := some 24, op := Go.Op.call { callee := Go.Callee.builtin Go.Builtin.len, args := #[Go.Operand.tmp 23], argTypes := #[22] }, type := 3, pos := "law.go:60", after := #[{ on := 0, ground := Go.Ground.data }], guard := none }) (v := ?_) rfl (Or.inl ⟨by rfl, ?_⟩) ?_; rotate_left; (focus (intro w hSw; (try dsimp only at hSw); go_simp; (try (with_reducible rfl)); done)); try simp only [Act.put, List.setIfInBounds_toArray, List.set_cons_zero, List.set_cons_succ]
      refine wpL_calm (o := { dst := some 25, op := Go.Op.binOp Go.BinOp.eql 3 (Go.Operand.tmp 24) (Go.Operand.const (Go.Value.int Go.IntKind.i64 0)) 3, type := 4, pos := "law.go:60", after := #[{ on := 1, ground := Go.Ground.data }], guard := none }) (v := ?_) rfl (Or.inl ⟨by rfl, ?_⟩) ?_; rotate_left; (focus (intro w hSw; (try dsimp only at hSw); go_simp; (try (with_reducible rfl)); done)); try simp only [Act.put, List.setIfInBounds_toArray, List.set_cons_zero, List.set_cons_succ]
      refine wpL_calm (o := { dst := some 26, op := Go.Op.move (Go.Operand.tmp 25), type := 4, pos := "law.go:60", after := #[{ on := 2, ground := Go.Ground.data }], guard := none }) (v := ?_) rfl (Or.inl ⟨by rfl, ?_⟩) ?_; rotate_left; (focus (intro w hSw; (try dsimp only at hSw); go_simp; (try (with_reducible rfl)); done)); try simp only [Act.put, List.setIfInBounds_toArray, List.set_cons_zero, List.set_cons_succ]
      refine wpL_calm (o := { dst := some 27, op := Go.Op.load 30 (Go.Operand.tmp 5), type := 30, pos := "law.go:60", after := #[{ on := 3, ground := Go.Ground.guard }], guard := some (3, true) }) rfl (yieldsIf_load_mid (by rfl) _ _ rfl gd 0 rfl z32.toList _ (fun _ h => h) Try.underlying30 rfl hsz) ?_; rw [ez]
      try simp only [Act.put, List.setIfInBounds_toArray, List.set_cons_zero, List.set_cons_succ]
      refine wpL_calm (o := { dst := some 28, op := Go.Op.build 30 #[], type := 30, pos := "law.go:60", after := #[{ on := 3, ground := Go.Ground.guard }], guard := some (3, true) }) (v := ?_) rfl (Or.inl ⟨by rfl, ?_⟩) ?_; rotate_left; (focus (intro w hSw; (try dsimp only at hSw); go_simp; (try (with_reducible rfl)); done)); try simp only [Act.put, List.setIfInBounds_toArray, List.set_cons_zero, List.set_cons_succ]
      refine wpL_calm (o := { dst := some 29, op := Go.Op.binOp Go.BinOp.neq 30 (Go.Operand.tmp 27) (Go.Operand.tmp 28) 30, type := 4, pos := "law.go:60", after := #[{ on := 4, ground := Go.Ground.data }, { on := 5, ground := Go.Ground.data }, { on := 3, ground := Go.Ground.guard }], guard := some (3, true) }) (v := .bool false) rfl (Or.inl ⟨by rfl, ?_⟩) ?_; (focus (intro w hSw; exact run_bin_opO .neq _ _ _ _ rfl eqg_dg rfl rfl (by with_unfolding_all exact neq_z32 w)))
      try simp only [Act.put, List.setIfInBounds_toArray, List.set_cons_zero, List.set_cons_succ]
      refine wpL_calm (o := { dst := some 30, op := Go.Op.move (Go.Operand.tmp 29), type := 4, pos := "law.go:60", after := #[{ on := 6, ground := Go.Ground.data }, { on := 3, ground := Go.Ground.chain }, { on := 3, ground := Go.Ground.guard }], guard := some (3, true) }) (v := ?_) rfl (Or.inl ⟨by rfl, ?_⟩) ?_; rotate_left; (focus (intro w hSw; (try dsimp only at hSw); go_simp; (try (with_reducible rfl)); done)); try simp only [Act.put, List.setIfInBounds_toArray, List.set_cons_zero, List.set_cons_succ]
      refine wpL_calm (o := { dst := some 31, op := Go.Op.move (Go.Operand.tmp 6), type := 26, pos := "law.go:60", after := #[{ on := 7, ground := Go.Ground.guard }], guard := some (7, false) }) (v := ?_) rfl (Or.inl ⟨by rfl, ?_⟩) ?_; rotate_left; (focus (intro w hSw; (try dsimp only at hSw); go_simp; (try (with_reducible rfl)); done)); try simp only [Act.put, List.setIfInBounds_toArray, List.set_cons_zero, List.set_cons_succ]
      refine wpL_calm (o := { dst := some 32, op := Go.Op.binOp Go.BinOp.neq 26 (Go.Operand.tmp 31) (Go.Operand.const (Go.Value.int Go.IntKind.i64 7)) 26, type := 4, pos := "law.go:60", after := #[{ on := 8, ground := Go.Ground.data }, { on := 7, ground := Go.Ground.guard }], guard := some (7, false) }) (v := ?_) rfl (Or.inl ⟨by rfl, ?_⟩) ?_; rotate_left; (focus (intro w hSw; (try dsimp only at hSw); go_simp; (try (with_reducible rfl)); done)); try simp only [Act.put, List.setIfInBounds_toArray, List.set_cons_zero, List.set_cons_succ]
      refine wpL_calm (o := { dst := some 33, op := Go.Op.pick (Go.Operand.tmp 30) (Go.Operand.const (Go.Value.bool true)) (Go.Operand.tmp 32), type := 4, pos := "law.go:60", after := #[{ on := 7, ground := Go.Ground.data }, { on := 9, ground := Go.Ground.data }, { on := 3, ground := Go.Ground.guard }], guard := some (3, true) }) (v := ?_) rfl (Or.inl ⟨by rfl, ?_⟩) ?_; rotate_left; (focus (intro w hSw; (try dsimp only at hSw); go_simp; (try (with_reducible rfl)); done)); try simp only [Act.put, List.setIfInBounds_toArray, List.set_cons_zero, List.set_cons_succ]
      refine wpL_calm (o := { dst := some 34, op := Go.Op.pick (Go.Operand.tmp 26) (Go.Operand.tmp 33) (Go.Operand.const (Go.Value.bool false)), type := 4, pos := "law.go:60", after := #[{ on := 3, ground := Go.Ground.data }, { on := 10, ground := Go.Ground.data }], guard := none }) (v := ?_) rfl (Or.inl ⟨by rfl, ?_⟩) ?_; rotate_left; (focus (intro w hSw; (try dsimp only at hSw); go_simp; (try (with_reducible rfl)); done)); try simp only [Act.put, List.setIfInBounds_toArray, List.set_cons_zero, List.set_cons_succ]
      refine wpL_calm (o := { dst := some 35, op := Go.Op.move (Go.Operand.tmp 34), type := 4, pos := "law.go:60", after := #[{ on := 11, ground := Go.Ground.data }, { on := 7, ground := Go.Ground.chain }], guard := none }) (v := ?_) rfl (Or.inl ⟨by rfl, ?_⟩) ?_; rotate_left; (focus (intro w hSw; (try dsimp only at hSw); go_simp; (try (with_reducible rfl)); done)); try simp only [Act.put, List.setIfInBounds_toArray, List.set_cons_zero, List.set_cons_succ]
      refine wpL_calm (o := { dst := some 36, op := Go.Op.move (Go.Operand.tmp 0), type := 22, pos := "law.go:60", after := #[{ on := 12, ground := Go.Ground.guard }], guard := some (12, false) }) (v := ?_) rfl (Or.inl ⟨by rfl, ?_⟩) ?_; rotate_left; (focus (intro w hSw; (try dsimp only at hSw); go_simp; (try (with_reducible rfl)); done)); try simp only [Act.put, List.setIfInBounds_toArray, List.set_cons_zero, List.set_cons_succ]
      refine wpL_calm (o := { dst := some 37, op := Go.Op.call { callee := Go.Callee.builtin Go.Builtin.len, args := #[Go.Operand.tmp 36], argTypes := #[22] }, type := 3, pos := "law.go:60", after := #[{ on := 13, ground := Go.Ground.data }, { on := 12, ground := Go.Ground.guard }], guard := some (12, false) }) (v := ?_) rfl (Or.inl ⟨by rfl, ?_⟩) ?_; rotate_left; (focus (intro w hSw; (try dsimp only at hSw); go_simp; (try (with_reducible rfl)); done)); try simp only [Act.put, List.setIfInBounds_toArray, List.set_cons_zero, List.set_cons_succ]
      refine wpL_calm (o := { dst := some 38, op := Go.Op.binOp Go.BinOp.gtr 3 (Go.Operand.tmp 37) (Go.Operand.const (Go.Value.int Go.IntKind.i64 0)) 3, type := 4, pos := "law.go:60", after := #[{ on := 14, ground := Go.Ground.data }, { on := 12, ground := Go.Ground.guard }], guard := some (12, false) }) (v := ?_) rfl (Or.inl ⟨by rfl, ?_⟩) ?_; rotate_left; (focus (intro w hSw; (try dsimp only at hSw); go_simp; (try (with_reducible rfl)); done)); try simp only [Act.put, List.setIfInBounds_toArray, List.set_cons_zero, List.set_cons_succ]
      refine wpL_calm (o := { dst := some 39, op := Go.Op.move (Go.Operand.tmp 38), type := 4, pos := "law.go:60", after := #[{ on := 15, ground := Go.Ground.data }, { on := 12, ground := Go.Ground.chain }, { on := 12, ground := Go.Ground.guard }], guard := some (12, false) }) (v := ?_) rfl (Or.inl ⟨by rfl, ?_⟩) ?_; rotate_left; (focus (intro w hSw; (try dsimp only at hSw); go_simp; (try (with_reducible rfl)); done)); try simp only [Act.put, List.setIfInBounds_toArray, List.set_cons_zero, List.set_cons_succ]
      refine wpL_calm (o := { dst := some 40, op := Go.Op.load 30 (Go.Operand.tmp 5), type := 30, pos := "law.go:60", after := #[{ on := 16, ground := Go.Ground.guard }], guard := some (16, true) }) (v := undef) rfl (Or.inr ⟨by rfl, rfl⟩) ?_; try simp only [Act.put, List.setIfInBounds_toArray, List.set_cons_zero, List.set_cons_succ]
      refine wpL_calm (o := { dst := some 41, op := Go.Op.move (Go.Operand.tmp 0), type := 22, pos := "law.go:60", after := #[{ on := 16, ground := Go.Ground.guard }], guard := some (16, true) }) (v := undef) rfl (Or.inr ⟨by rfl, rfl⟩) ?_; try simp only [Act.put, List.setIfInBounds_toArray, List.set_cons_zero, List.set_cons_succ]
      refine wpL_calm (o := { dst := some 42, op := Go.Op.move (Go.Operand.tmp 0), type := 22, pos := "law.go:60", after := #[{ on := 16, ground := Go.Ground.guard }], guard := some (16, true) }) (v := undef) rfl (Or.inr ⟨by rfl, rfl⟩) ?_; try simp only [Act.put, List.setIfInBounds_toArray, List.set_cons_zero, List.set_cons_succ]
      refine wpL_calm (o := { dst := some 43, op := Go.Op.call { callee := Go.Callee.builtin Go.Builtin.len, args := #[Go.Operand.tmp 42], argTypes := #[22] }, type := 3, pos := "law.go:60", after := #[{ on := 19, ground := Go.Ground.data }, { on := 16, ground := Go.Ground.guard }], guard := some (16, true) }) (v := undef) rfl (Or.inr ⟨by rfl, rfl⟩) ?_; try simp only [Act.put, List.setIfInBounds_toArray, List.set_cons_zero, List.set_cons_succ]
      refine wpL_calm (o := { dst := some 44, op := Go.Op.binOp Go.BinOp.sub 3 (Go.Operand.tmp 43) (Go.Operand.const (Go.Value.int Go.IntKind.i64 1)) 3, type := 3, pos := "law.go:60", after := #[{ on := 20, ground := Go.Ground.data }, { on := 16, ground := Go.Ground.guard }], guard := some (16, true) }) (v := undef) rfl (Or.inr ⟨by rfl, rfl⟩) ?_; try simp only [Act.put, List.setIfInBounds_toArray, List.set_cons_zero, List.set_cons_succ]
      refine wpL_calm (o := { dst := some 45, op := Go.Op.indexAddr 22 (Go.Operand.tmp 41) (Go.Operand.tmp 44), type := 0, pos := "law.go:60", after := #[{ on := 18, ground := Go.Ground.data }, { on := 21, ground := Go.Ground.data }, { on := 16, ground := Go.Ground.guard }], guard := some (16, true) }) (v := undef) rfl (Or.inr ⟨by rfl, rfl⟩) ?_; try simp only [Act.put, List.setIfInBounds_toArray, List.set_cons_zero, List.set_cons_succ]
      refine wpL_calm (o := { dst := some 46, op := Go.Op.fieldAddr 34 (Go.Operand.tmp 45) 1, type := 0, pos := "law.go:60", after := #[{ on := 22, ground := Go.Ground.data }, { on := 16, ground := Go.Ground.guard }], guard := some (16, true) }) (v := undef) rfl (Or.inr ⟨by rfl, rfl⟩) ?_; try simp only [Act.put, List.setIfInBounds_toArray, List.set_cons_zero, List.set_cons_succ]
      refine wpL_calm (o := { dst := some 47, op := Go.Op.load 30 (Go.Operand.tmp 46), type := 30, pos := "law.go:60", after := #[{ on := 23, ground := Go.Ground.data }, { on := 16, ground := Go.Ground.guard }], guard := some (16, true) }) (v := undef) rfl (Or.inr ⟨by rfl, rfl⟩) ?_; try simp only [Act.put, List.setIfInBounds_toArray, List.set_cons_zero, List.set_cons_succ]
      refine wpL_calm (o := { dst := some 48, op := Go.Op.binOp Go.BinOp.neq 30 (Go.Operand.tmp 40) (Go.Operand.tmp 47) 30, type := 4, pos := "law.go:60", after := #[{ on := 17, ground := Go.Ground.data }, { on := 24, ground := Go.Ground.data }, { on := 16, ground := Go.Ground.guard }], guard := some (16, true) }) (v := undef) rfl (Or.inr ⟨by rfl, rfl⟩) ?_; try simp only [Act.put, List.setIfInBounds_toArray, List.set_cons_zero, List.set_cons_succ]
      refine wpL_calm (o := { dst := some 49, op := Go.Op.move (Go.Operand.tmp 48), type := 4, pos := "law.go:60", after := #[{ on := 25, ground := Go.Ground.data }, { on := 16, ground := Go.Ground.chain }, { on := 16, ground := Go.Ground.guard }], guard := some (16, true) }) (v := undef) rfl (Or.inr ⟨by rfl, rfl⟩) ?_; try simp only [Act.put, List.setIfInBounds_toArray, List.set_cons_zero, List.set_cons_succ]
      refine wpL_calm (o := { dst := some 50, op := Go.Op.move (Go.Operand.tmp 6), type := 26, pos := "law.go:60", after := #[{ on := 26, ground := Go.Ground.guard }], guard := some (26, false) }) (v := undef) rfl (Or.inr ⟨by rfl, rfl⟩) ?_; try simp only [Act.put, List.setIfInBounds_toArray, List.set_cons_zero, List.set_cons_succ]
      refine wpL_calm (o := { dst := some 51, op := Go.Op.binOp Go.BinOp.neq 26 (Go.Operand.tmp 50) (Go.Operand.const (Go.Value.int Go.IntKind.i64 0)) 26, type := 4, pos := "law.go:60", after := #[{ on := 27, ground := Go.Ground.data }, { on := 26, ground := Go.Ground.guard }], guard := some (26, false) }) (v := undef) rfl (Or.inr ⟨by rfl, rfl⟩) ?_; try simp only [Act.put, List.setIfInBounds_toArray, List.set_cons_zero, List.set_cons_succ]
      refine wpL_calm (o := { dst := some 52, op := Go.Op.pick (Go.Operand.tmp 49) (Go.Operand.const (Go.Value.bool true)) (Go.Operand.tmp 51), type := 4, pos := "law.go:60", after := #[{ on := 26, ground := Go.Ground.data }, { on := 28, ground := Go.Ground.data }, { on := 16, ground := Go.Ground.guard }], guard := some (16, true) }) (v := undef) rfl (Or.inr ⟨by rfl, rfl⟩) ?_; try simp only [Act.put, List.setIfInBounds_toArray, List.set_cons_zero, List.set_cons_succ]
      refine wpL_calm (o := { dst := some 53, op := Go.Op.pick (Go.Operand.tmp 39) (Go.Operand.tmp 52) (Go.Operand.const (Go.Value.bool false)), type := 4, pos := "law.go:60", after := #[{ on := 16, ground := Go.Ground.data }, { on := 29, ground := Go.Ground.data }, { on := 12, ground := Go.Ground.guard }], guard := some (12, false) }) (v := ?_) rfl (Or.inl ⟨by rfl, ?_⟩) ?_; rotate_left; (focus (intro w hSw; (try dsimp only at hSw); go_simp; (try (with_reducible rfl)); done)); try simp only [Act.put, List.setIfInBounds_toArray, List.set_cons_zero, List.set_cons_succ]
      refine wpL_calm (o := { dst := some 54, op := Go.Op.pick (Go.Operand.tmp 35) (Go.Operand.const (Go.Value.bool true)) (Go.Operand.tmp 53), type := 4, pos := "law.go:60", after := #[{ on := 12, ground := Go.Ground.data }, { on := 30, ground := Go.Ground.data }], guard := none }) (v := ?_) rfl (Or.inl ⟨by rfl, ?_⟩) ?_; rotate_left; (focus (intro w hSw; (try dsimp only at hSw); go_simp; (try (with_reducible rfl)); done)); try simp only [Act.put, List.setIfInBounds_toArray, List.set_cons_zero, List.set_cons_succ]
      refine wpL_nil ?_
      refine NoPanic.normal ?_
      clear hr4 hneq hb hsz hHeld hrl
      have HB5 := Lib.hid HB4.out.drew
      have HP5 : Hid (PuAt w4.drew a2 P) := HP4
      clear HB4 HP4
      generalize w4.drew = w5 at *
      go_wp2_with fail
      go_loopw [7] (fun s7 wi => s7 = .int .i64 0 ∧ Hid (Below w5.heap.size w5 wi)) (fun s7 _ => 0)
      case atStart => exact ⟨rfl, Lib.hid (Below.refl _ _)⟩
      case round =>
        obtain ⟨rfl, HB⟩ := hrel
        · as_aux_lemma =>
          have hE0 : E = 0 := by rw [← HE.out]; rw [List.length_eq_zero_iff.1 hnn.out]; rfl
          subst hE0
          have HPE : Hid (P = setAll [] (allP L)) := Lib.hid (by rw [← HP.out]; exact ofL_eq HE.out)
          have HB6 := Lib.hid (HB5.out.trans (HB.out.mono HB5.out.size))
          have HP6 := Lib.hid (HP5.out.below HB.out)
          clear HB HP5 HB5
          go_wp2_with fail
          refine (awake32 wr).mono ?_
          rintro e w7 ⟨rfl, hb7⟩
          have HB7 := Lib.hid (HB6.out.trans (hb7.mono HB6.out.size))
          have HP7 := Lib.hid (HP6.out.below hb7)
          have CA := Lib.hid (rall_any _ c L w7 (HAT.out.below HB7.out) (by rw [hnn.out]; omega) (by omega))
          rw [hnn.out] at CA
          clear HB6 HP6 hb7
          go_wp2_with fail
          refine CA.out.mono ?_
          rintro e w8 ⟨a8, c8, rfl, hpu8, hb8⟩
          have HB8 := Lib.hid (HB7.out.trans (hb8.mono HB7.out.size))
          have HP8 := Lib.hid (HP7.out.below hb8)
          have CS := Lib.hid (rof_any a8 c8 (allP L) w8 hpu8 (by omega))
          rw [← HPE.out] at CS
          obtain ⟨na, hna⟩ : ∃ na, (allP L).length = na := ⟨_, rfl⟩
          rw [hna] at CS ⊢
          clear CA HB7 HP7 hb8 hpu8
          go_wp2_with fail
          refine CS.out.mono ?_
          rintro e w9 ⟨a9, c9, rfl, hpu9, hb9⟩
          have HB9 := Lib.hid (HB8.out.trans (hb9.mono HB8.out.size))
          have HP9 := Lib.hid (HP8.out.below hb9)
          have hm9 : m ≤ 10000 := by have := setAll_len [] (allP L); rw [← HPE.out, hmm.out] at this; simp at this; omega
          have CQ := Lib.hid (osame_any P P a2 a9 m c2 m c9 w9 hmm.out hmm.out (by omega) (by omega) HP9.out hpu9)
          rw [decide_eq_true rfl] at CQ
          rw [hmm.out]
          clear CS HB8 HP8 HP9 hb9 hpu9
          go_wp2_with fail
          refine CQ.out.mono ?_
          rintro e w10 ⟨rfl, hb10⟩
          have HB10 := Lib.hid (HB9.out.trans (hb10.mono HB9.out.size))
          clear CQ hb10 HB9
          go_wp2_with fail
          go_ret
          exact ⟨by first | rfl | simp, HB10.out⟩
section
variable {H : Type} {enc : TypeId × Value → H}
theorem planOf_walk (v : Value) (d : DataW H) (p : List MemPlace) (w : World) (hv : ∃ a len cap, v = .slice a len cap) (h : DataW.Trod enc Try.prog w 0 (fun _ => true) true 22 v d p) :
    Calls Try.prog 3 #[v] w fun e w' => e = .returned (.bool true) ∧ Below w.heap.size w w' := by
  obtain ⟨ao, cap, L, rfl, hm, hl, hA⟩ := open_recs hv h
  exact planOf_any ao cap L w hA hm
end
end Go.Proofs.Ytnlgkhggokloeaa
