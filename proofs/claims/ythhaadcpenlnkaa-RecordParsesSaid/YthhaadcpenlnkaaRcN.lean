/- Records compared: slices.Equal of Puts; record.Same; the reference's Same. -/
import Derived.Test.YthhaadcpenlnkaaRcM
namespace Go.Proofs.Ythhaadcpenlnkaa
open Go.RowKit Go.Deep
set_option linter.unusedVariables false
set_option linter.unusedSimpArgs false
set_option maxRecDepth 100000 in
set_option maxHeartbeats 4000000 in
theorem eqp_any (L M : List Pt) (la lb : Option Addr) (n c m d : Nat) (w : World) (hn : L.length = n) (hm : M.length = m) (hnm : n ≤ 9223372036854775807) (hmm : m ≤ 9223372036854775807) (hT : PtAt w la L) (hU : PtAt w lb M) :
    Calls Try.prog 32 #[.slice la n c, .slice lb m d] w fun e w' => e = .returned (.bool (decide (L = M))) ∧ Below w.heap.size w w' := by
  by_cases hl : n = m
  · have e1 : ((n : Int) != (m : Int)) = false := by rw [bne_eq_false_iff_eq]; omega
    have HN := Lib.hid hn
    have HM := Lib.hid hm
    have HT := Lib.hid hT
    have HU := Lib.hid hU
    clear hn hm hT hU
    go_enter Try.func32, Try.ntmps32
    go_wp2_with fail
    go_loopw [13] (fun x wi => ∃ k : Nat, x = .int .i64 (k : Int) ∧ k ≤ n ∧ Hid (∀ j (h1 : j < L.length) (h2 : j < M.length), j < k → L[j] = M[j]) ∧ Hid (Below w.heap.size w wi)) (fun x _ => n - (intOf x).toNat)
    case atStart => exact ⟨0, rfl, by omega, Lib.hid (fun j _ _ h => absurd h (by omega)), Lib.hid (Below.refl _ _)⟩
    case round =>
      obtain ⟨k, rfl, hk, HK, HB⟩ := hrel
      by_cases hlt : k < n
      · as_aux_lemma =>
        have hli : (k : Int) < (n : Int) := by omega
        have hlm : (k : Int) < (m : Int) := by omega
        have hkL : k < L.length := by rw [HN.out]; exact hlt
        have hkM : k < M.length := by rw [HM.out]; omega
        obtain ⟨gl, ol, rfl, hgl, htx⟩ := HT.out (by omega)
        obtain ⟨gm, om, rfl, hgm, hux⟩ := HU.out (by omega)
        have a0 := (HB.out.cell (p := ⟨gl, ol + k * 2, none⟩) hgl).trans (htx k hkL).1
        have a1 := (HB.out.cell (p := ⟨gl, ol + k * 2 + 1, none⟩) hgl).trans (htx k hkL).2
        have b0 := (HB.out.cell (p := ⟨gm, om + k * 2, none⟩) hgm).trans (hux k hkM).1
        have b1 := (HB.out.cell (p := ⟨gm, om + k * 2 + 1, none⟩) hgm).trans (hux k hkM).2
        have hpe := pt_eq hkL hkM
        have hnp := neq_pt (pAt L k) (pAt M k) (pB L k) (pB M k)
        rw [hpe] at hnp
        have HNE : Hid (decide (L[k] = M[k]) = false → L ≠ M) := Lib.hid (fun h => pt_ne_at L M k hkL hkM (of_decide_eq_false h))
        have HEQ : Hid (decide (L[k] = M[k]) = true → ∀ j (h1 : j < L.length) (h2 : j < M.length), j < k + 1 → L[j] = M[j]) := Lib.hid (fun h j h1 h2 hj => by
          by_cases e : j = k
          · subst e; exact of_decide_eq_true h
          · exact HK.out j h1 h2 (by omega))
        clear htx hux hpe
        generalize pAt L k = za at *
        generalize pAt M k = zb at *
        generalize pB L k = sa at *
        generalize pB M k = sb at *
        generalize decide (L[k] = M[k]) = r at *
        cases r with
        | true =>
          go_upto_region 6 with fail
          refine wp_region_lin (S := (fun w' => LoadedM Try.prog 48 w' gl (ol + k * 2) [.int .i64 za, .string sa] ∧ LoadedM Try.prog 48 w' gm (om + k * 2) [.int .i64 zb, .string sb])) [(0, true), (1, true), (2, true), (3, true), (4, true), (5, true), (6, true), (7, true), (8, true)] (by kernel_rfl) (by kernel_rfl) rfl (by kernel_rfl) ?_ (fun hHeld => ?_)
          · (try dsimp only); exact ⟨loadedM_pt a0 a1, loadedM_pt b0 b1⟩
          refine wpL_calm (o := { dst := some 16, op := Go.Op.move (Go.Operand.tmp 0), type := 24, pos := "slices.go:25", after := #[], guard := none }) (v := ?_) rfl (Or.inl ⟨by rfl, ?_⟩) ?_; rotate_left; (focus (intro w hSw; (try dsimp only at hSw); go_simp; (try (with_reducible rfl)); done)); try simp only [Act.put, List.setIfInBounds_toArray, List.set_cons_zero, List.set_cons_succ]
          refine wpL_calm (o := { dst := some 17, op := Go.Op.move (Go.Operand.tmp 5), type := 3, pos := "slices.go:25", after := #[], guard := none }) (v := ?_) rfl (Or.inl ⟨by rfl, ?_⟩) ?_; rotate_left; (focus (intro w hSw; (try dsimp only at hSw); go_simp; (try (with_reducible rfl)); done)); try simp only [Act.put, List.setIfInBounds_toArray, List.set_cons_zero, List.set_cons_succ]
          refine wpL_calm (o := { dst := some 18, op := Go.Op.indexAddr 24 (Go.Operand.tmp 16) (Go.Operand.tmp 17), type := 0, pos := "slices.go:25", after := #[{ on := 0, ground := Go.Ground.data }, { on := 1, ground := Go.Ground.data }], guard := none }) (v := ?_) rfl (Or.inl ⟨by rfl, ?_⟩) ?_; rotate_left; (focus (intro w hSw; (try dsimp only at hSw); go_simp; (try (with_reducible rfl)); done)); try simp only [Act.put, List.setIfInBounds_toArray, List.set_cons_zero, List.set_cons_succ]
          refine wpL_calm (o := { dst := some 19, op := Go.Op.load 48 (Go.Operand.tmp 18), type := 48, pos := "slices.go:25", after := #[{ on := 2, ground := Go.Ground.data }], guard := none }) (v := .agg #[.int .i64 za, .string sa]) rfl (Or.inl ⟨by rfl, fun w' hS => hS.1.op _ rfl rfl⟩) ?_
          try simp only [Act.put, List.setIfInBounds_toArray, List.set_cons_zero, List.set_cons_succ]
          refine wpL_calm (o := { dst := some 20, op := Go.Op.move (Go.Operand.tmp 1), type := 24, pos := "slices.go:25", after := #[], guard := none }) (v := ?_) rfl (Or.inl ⟨by rfl, ?_⟩) ?_; rotate_left; (focus (intro w hSw; (try dsimp only at hSw); go_simp; (try (with_reducible rfl)); done)); try simp only [Act.put, List.setIfInBounds_toArray, List.set_cons_zero, List.set_cons_succ]
          refine wpL_calm (o := { dst := some 21, op := Go.Op.move (Go.Operand.tmp 5), type := 3, pos := "slices.go:25", after := #[], guard := none }) (v := ?_) rfl (Or.inl ⟨by rfl, ?_⟩) ?_; rotate_left; (focus (intro w hSw; (try dsimp only at hSw); go_simp; (try (with_reducible rfl)); done)); try simp only [Act.put, List.setIfInBounds_toArray, List.set_cons_zero, List.set_cons_succ]
          refine wpL_calm (o := { dst := some 22, op := Go.Op.indexAddr 24 (Go.Operand.tmp 20) (Go.Operand.tmp 21), type := 0, pos := "slices.go:25", after := #[{ on := 4, ground := Go.Ground.data }, { on := 5, ground := Go.Ground.data }], guard := none }) (v := ?_) rfl (Or.inl ⟨by rfl, ?_⟩) ?_; rotate_left; (focus (intro w hSw; (try dsimp only at hSw); go_simp; (try (with_reducible rfl)); done)); try simp only [Act.put, List.setIfInBounds_toArray, List.set_cons_zero, List.set_cons_succ]
          refine wpL_calm (o := { dst := some 23, op := Go.Op.load 48 (Go.Operand.tmp 22), type := 48, pos := "slices.go:25", after := #[{ on := 6, ground := Go.Ground.data }], guard := none }) (v := .agg #[.int .i64 zb, .string sb]) rfl (Or.inl ⟨by rfl, fun w' hS => hS.2.op _ rfl rfl⟩) ?_
          try simp only [Act.put, List.setIfInBounds_toArray, List.set_cons_zero, List.set_cons_succ]
          refine wpL_calm (o := { dst := some 24, op := Go.Op.binOp Go.BinOp.neq 48 (Go.Operand.tmp 19) (Go.Operand.tmp 23) 48, type := 4, pos := "slices.go:25", after := #[{ on := 3, ground := Go.Ground.data }, { on := 7, ground := Go.Ground.data }], guard := none }) (v := .bool false) rfl (Or.inl ⟨by rfl, fun w _ => run_bin_op _ _ _ _ _ rfl eqg_pt rfl rfl (hnp w)⟩) ?_
          try simp only [Act.put, List.setIfInBounds_toArray, List.set_cons_zero, List.set_cons_succ]
          refine wpL_nil ?_
          refine NoPanic.normal ?_
          clear hHeld a0 a1 b0 b1
          go_wp2_with fail
          go_roundw
          case rel => exact ⟨k + 1, by go_num, by omega, Lib.hid (HEQ.out rfl), Lib.hid HB.out.drew⟩
          case measure => simp [intOf]; omega
        | false =>
          go_upto_region 6 with fail
          refine wp_region_lin (S := (fun w' => LoadedM Try.prog 48 w' gl (ol + k * 2) [.int .i64 za, .string sa] ∧ LoadedM Try.prog 48 w' gm (om + k * 2) [.int .i64 zb, .string sb])) [(0, true), (1, true), (2, true), (3, true), (4, true), (5, true), (6, true), (7, true), (8, true)] (by kernel_rfl) (by kernel_rfl) rfl (by kernel_rfl) ?_ (fun hHeld => ?_)
          · (try dsimp only); exact ⟨loadedM_pt a0 a1, loadedM_pt b0 b1⟩
          refine wpL_calm (o := { dst := some 16, op := Go.Op.move (Go.Operand.tmp 0), type := 24, pos := "slices.go:25", after := #[], guard := none }) (v := ?_) rfl (Or.inl ⟨by rfl, ?_⟩) ?_; rotate_left; (focus (intro w hSw; (try dsimp only at hSw); go_simp; (try (with_reducible rfl)); done)); try simp only [Act.put, List.setIfInBounds_toArray, List.set_cons_zero, List.set_cons_succ]
          refine wpL_calm (o := { dst := some 17, op := Go.Op.move (Go.Operand.tmp 5), type := 3, pos := "slices.go:25", after := #[], guard := none }) (v := ?_) rfl (Or.inl ⟨by rfl, ?_⟩) ?_; rotate_left; (focus (intro w hSw; (try dsimp only at hSw); go_simp; (try (with_reducible rfl)); done)); try simp only [Act.put, List.setIfInBounds_toArray, List.set_cons_zero, List.set_cons_succ]
          refine wpL_calm (o := { dst := some 18, op := Go.Op.indexAddr 24 (Go.Operand.tmp 16) (Go.Operand.tmp 17), type := 0, pos := "slices.go:25", after := #[{ on := 0, ground := Go.Ground.data }, { on := 1, ground := Go.Ground.data }], guard := none }) (v := ?_) rfl (Or.inl ⟨by rfl, ?_⟩) ?_; rotate_left; (focus (intro w hSw; (try dsimp only at hSw); go_simp; (try (with_reducible rfl)); done)); try simp only [Act.put, List.setIfInBounds_toArray, List.set_cons_zero, List.set_cons_succ]
          refine wpL_calm (o := { dst := some 19, op := Go.Op.load 48 (Go.Operand.tmp 18), type := 48, pos := "slices.go:25", after := #[{ on := 2, ground := Go.Ground.data }], guard := none }) (v := .agg #[.int .i64 za, .string sa]) rfl (Or.inl ⟨by rfl, fun w' hS => hS.1.op _ rfl rfl⟩) ?_
          try simp only [Act.put, List.setIfInBounds_toArray, List.set_cons_zero, List.set_cons_succ]
          refine wpL_calm (o := { dst := some 20, op := Go.Op.move (Go.Operand.tmp 1), type := 24, pos := "slices.go:25", after := #[], guard := none }) (v := ?_) rfl (Or.inl ⟨by rfl, ?_⟩) ?_; rotate_left; (focus (intro w hSw; (try dsimp only at hSw); go_simp; (try (with_reducible rfl)); done)); try simp only [Act.put, List.setIfInBounds_toArray, List.set_cons_zero, List.set_cons_succ]
          refine wpL_calm (o := { dst := some 21, op := Go.Op.move (Go.Operand.tmp 5), type := 3, pos := "slices.go:25", after := #[], guard := none }) (v := ?_) rfl (Or.inl ⟨by rfl, ?_⟩) ?_; rotate_left; (focus (intro w hSw; (try dsimp only at hSw); go_simp; (try (with_reducible rfl)); done)); try simp only [Act.put, List.setIfInBounds_toArray, List.set_cons_zero, List.set_cons_succ]
          refine wpL_calm (o := { dst := some 22, op := Go.Op.indexAddr 24 (Go.Operand.tmp 20) (Go.Operand.tmp 21), type := 0, pos := "slices.go:25", after := #[{ on := 4, ground := Go.Ground.data }, { on := 5, ground := Go.Ground.data }], guard := none }) (v := ?_) rfl (Or.inl ⟨by rfl, ?_⟩) ?_; rotate_left; (focus (intro w hSw; (try dsimp only at hSw); go_simp; (try (with_reducible rfl)); done)); try simp only [Act.put, List.setIfInBounds_toArray, List.set_cons_zero, List.set_cons_succ]
          refine wpL_calm (o := { dst := some 23, op := Go.Op.load 48 (Go.Operand.tmp 22), type := 48, pos := "slices.go:25", after := #[{ on := 6, ground := Go.Ground.data }], guard := none }) (v := .agg #[.int .i64 zb, .string sb]) rfl (Or.inl ⟨by rfl, fun w' hS => hS.2.op _ rfl rfl⟩) ?_
          try simp only [Act.put, List.setIfInBounds_toArray, List.set_cons_zero, List.set_cons_succ]
          refine wpL_calm (o := { dst := some 24, op := Go.Op.binOp Go.BinOp.neq 48 (Go.Operand.tmp 19) (Go.Operand.tmp 23) 48, type := 4, pos := "slices.go:25", after := #[{ on := 3, ground := Go.Ground.data }, { on := 7, ground := Go.Ground.data }], guard := none }) (v := .bool true) rfl (Or.inl ⟨by rfl, fun w _ => run_bin_op _ _ _ _ _ rfl eqg_pt rfl rfl (hnp w)⟩) ?_
          try simp only [Act.put, List.setIfInBounds_toArray, List.set_cons_zero, List.set_cons_succ]
          refine wpL_nil ?_
          refine NoPanic.normal ?_
          clear hHeld a0 a1 b0 b1
          go_wp2_with fail
          go_ret
          exact ⟨by rw [decide_eq_false (HNE.out (by first | rfl | trivial))]; first | done | rfl, HB.out.drew⟩
      · as_aux_lemma =>
        obtain rfl : k = n := by omega
        have HE : Hid (L = M) := Lib.hid (List.ext_getElem (by rw [HN.out, HM.out, hl]) (fun j h1 h2 => HK.out j h1 h2 (by rw [← HN.out]; exact h1)))
        go_wp2_with fail
        go_ret
        exact ⟨by rw [decide_eq_true HE.out]; first | done | rfl, HB.out⟩
  · have e1 : ((n : Int) != (m : Int)) = true := by rw [bne_iff_ne]; omega
    have hne : L ≠ M := fun e => by subst e; omega
    go_enter Try.func32, Try.ntmps32
    go_wp2_with fail
    go_ret
    exact ⟨by rw [decide_eq_false hne]; first | done | rfl, Below.refl _ _⟩
/-- Are two records the same? -/
def rcEq (A B : Rc) : Bool := decide (A.seq = B.seq ∧ A.root = B.root ∧ A.ps = B.ps)
theorem rcEq_self (A : Rc) : rcEq A A = true := by unfold rcEq; simp
theorem rcEq_seq {A B : Rc} (h : A.seq ≠ B.seq) : rcEq A B = false := by unfold rcEq; simp [h]
theorem rcEq_root {A B : Rc} (h : A.root ≠ B.root) : rcEq A B = false := by unfold rcEq; simp [h]
theorem rcEq_ps {A B : Rc} (h1 : A.seq = B.seq) (h2 : A.root = B.root) : rcEq A B = decide (A.ps = B.ps) := by unfold rcEq; simp [h1, h2]
theorem two_rc (w : World) (A B : Rc) (va vb : Value) (ha : A.root.length = 32) (hb : B.root.length = 32) : ∃ w1, Hid ((w.alloc (.cells (rcA A va) 26)).alloc (.cells (rcA B vb) 26) = w1) ∧ RcAt w1 w.heap.size A va ∧ RcAt w1 (w.heap.size + 1) B vb ∧ Hid (Below w.heap.size w w1) := by
  refine ⟨_, Lib.hid rfl, ⟨?_, ha⟩, ⟨?_, hb⟩, Lib.hid (((Below.refl _ _).alloc (Nat.le_refl _) _).alloc (by simp) _)⟩
  · exact heap_alloc2_old w _ _
  · have := heap_alloc_new (w.alloc (.cells (rcA A va) 26)) (.cells (rcA B vb) 26)
    simpa using this
attribute [local irreducible] rcA
set_option maxRecDepth 100000 in
set_option maxHeartbeats 4000000 in
theorem rcsame_any (A B : Rc) (la lb : Option Addr) (n c m d : Nat) (w : World) (ha : A.root.length = 32) (hb : B.root.length = 32) (hn : A.ps.length = n) (hm : B.ps.length = m) (hnm : n ≤ 9223372036854775807) (hmm : m ≤ 9223372036854775807) (hT : PtAt w la A.ps) (hU : PtAt w lb B.ps) :
    Calls Try.prog 20 #[.agg (rcA A (.slice la n c)), .agg (rcA B (.slice lb m d))] w fun e w' => e = .returned (.bool (rcEq A B)) ∧ Below w.heap.size w w' := by
  obtain ⟨w1, HW, hA, hB, HB⟩ := two_rc w A B (.slice la n c) (.slice lb m d) ha hb
  have a0 := hA.seq
  have b0 := hB.seq
  by_cases hs : A.seq = B.seq
  · by_cases hr : A.root = B.root
    · have PE := Lib.hid (eqp_any A.ps B.ps la lb n c m d w1 hn hm hnm hmm (hT.below HB.out) (hU.below HB.out))
      rw [rcEq_ps hs hr]
      have la1 := loadedM_root hA
      have lb1 := loadedM_root hB
      have hq := eql_root A.root B.root ha hb w1
      rw [decide_eq_true hr] at hq
      rw [← hs] at b0
      have a33 := hA.ps
      have b33 := hB.ps
      generalize decide (A.ps = B.ps) = z at *
      generalize A.seq = sa at *
      generalize rootV A.root = ra at *
      generalize rootV B.root = rb at *
      clear hs hr ha hb hn hm hT hU hA hB
      go_enter Try.func20, Try.ntmps20
      go_upto_region 1 with fail
      rw [HW.out]
      clear HW
      go_wp2_with (first | ((with_reducible refine wpList_load_mid_i (g := w.heap.size) (off := 1) (cs := ra) 23 _ rfl ?_ ?_ ?_); exact ⟨rfl, rfl⟩; assumption) | ((with_reducible refine wpList_load_mid_i (g := w.heap.size + 1) (off := 1) (cs := rb) 23 _ rfl ?_ ?_ ?_); exact ⟨rfl, rfl⟩; assumption) | ((with_reducible refine wpList_bin_g (vx := ra.toArray) (vy := rb.toArray) (r := .bool true) _ _ _ _ _ rfl eqg_root ?_ hq ?_); exact ⟨rfl, rfl, rfl⟩))
      refine PE.out.mono ?_
      rintro e w2 ⟨rfl, b2⟩
      go_wp2_with fail
      go_ret
      exact ⟨rfl, HB.out.trans (b2.mono HB.out.size)⟩
    · rw [rcEq_root hr]
      have la1 := loadedM_root hA
      have lb1 := loadedM_root hB
      have hq := eql_root A.root B.root ha hb w1
      rw [decide_eq_false hr] at hq
      rw [← hs] at b0
      generalize A.seq = sa at *
      generalize rootV A.root = ra at *
      generalize rootV B.root = rb at *
      clear hs hr ha hb hn hm hT hU hA hB
      go_enter Try.func20, Try.ntmps20
      go_upto_region 1 with fail
      rw [HW.out]
      clear HW
      go_wp2_with (first | ((with_reducible refine wpList_load_mid_i (g := w.heap.size) (off := 1) (cs := ra) 23 _ rfl ?_ ?_ ?_); exact ⟨rfl, rfl⟩; assumption) | ((with_reducible refine wpList_load_mid_i (g := w.heap.size + 1) (off := 1) (cs := rb) 23 _ rfl ?_ ?_ ?_); exact ⟨rfl, rfl⟩; assumption) | ((with_reducible refine wpList_bin_g (vx := ra.toArray) (vy := rb.toArray) (r := .bool false) _ _ _ _ _ rfl eqg_root ?_ hq ?_); exact ⟨rfl, rfl, rfl⟩))
      go_ret
      exact ⟨rfl, HB.out⟩
  · rw [rcEq_seq hs]
    have hq : (A.seq == B.seq) = false := by simpa using hs
    generalize A.seq = sa at *
    generalize B.seq = sb at *
    clear hs ha hb hn hm hT hU hA hB
    go_enter Try.func20, Try.ntmps20
    go_upto_region 1 with fail
    rw [HW.out]
    clear HW
    go_wp2_with fail
    go_ret
    exact ⟨rfl, HB.out⟩
end Go.Proofs.Ythhaadcpenlnkaa
