/- The reference's Same (record). -/
import Derived.Test.YthhaadcpenlnkaaRcN
namespace Go.Proofs.Ythhaadcpenlnkaa
open Go.RowKit Go.Deep
set_option linter.unusedVariables false
set_option linter.unusedSimpArgs false
attribute [local irreducible] rcA
set_option maxRecDepth 100000 in
set_option maxHeartbeats 4000000 in
theorem rsame_any (A B : Rc) (la lb : Option Addr) (n c m d : Nat) (w : World) (ha : A.root.length = 32) (hb : B.root.length = 32) (hn : A.ps.length = n) (hm : B.ps.length = m) (hnm : n ≤ 9223372036854775807) (hmm : m ≤ 9223372036854775807) (hT : PtAt w la A.ps) (hU : PtAt w lb B.ps) :
    Calls Try.prog 18 #[.agg (rcA A (.slice la n c)), .agg (rcA B (.slice lb m d))] w fun e w' => e = .returned (.bool (rcEq A B)) ∧ Below w.heap.size w w' := by
  obtain ⟨w1, HW, hA, hB, HB⟩ := two_rc w A B (.slice la n c) (.slice lb m d) ha hb
  have a0 := hA.seq
  have b0 := hB.seq
  by_cases hs : A.seq = B.seq
  · by_cases hr : A.root = B.root
    · have la1 := loadedM_root hA
      have lb1 := loadedM_root hB
      have hq := neq_root A.root B.root ha hb w1
      rw [decide_eq_true hr, Bool.not_true] at hq
      have HEQ := Lib.hid (rcEq_ps hs hr)
      have HT := Lib.hid (hT.below HB.out)
      have HU := Lib.hid (hU.below HB.out)
      rw [← hs] at b0
      have a33 := hA.ps
      have b33 := hB.ps
      have hla := hA.lt
      have hlb := hB.lt
      have HN := Lib.hid hn
      have HM := Lib.hid hm
      obtain ⟨z, hz⟩ : ∃ z, Hid (rcEq A B = z) := ⟨_, Lib.hid rfl⟩
      rw [hz.out] at HEQ ⊢
      clear hz
      generalize A.ps = L at *
      generalize B.ps = M at *
      generalize A.seq = sa at *
      generalize rootV A.root = ra at *
      generalize rootV B.root = rb at *
      clear hs hr ha hb hT hU hA hB
      by_cases hl : n = m
      · clear hn hm
        have e1 : ((n : Int) != (m : Int)) = false := by rw [bne_eq_false_iff_eq]; omega
        have HL := Lib.hid hl
        clear hl
        go_enter Try.func18, Try.ntmps18
        go_upto_region 1 with fail
        rw [HW.out]
        clear HW
        go_wp2_with (first | ((with_reducible refine wpList_load_mid_i (g := w.heap.size) (off := 1) (cs := ra) 23 _ rfl ?_ ?_ ?_); exact ⟨rfl, rfl⟩; assumption) | ((with_reducible refine wpList_load_mid_i (g := w.heap.size + 1) (off := 1) (cs := rb) 23 _ rfl ?_ ?_ ?_); exact ⟨rfl, rfl⟩; assumption) | ((with_reducible refine wpList_bin_g (vx := ra.toArray) (vy := rb.toArray) (r := .bool false) _ _ _ _ _ rfl eqg_root ?_ hq ?_); exact ⟨rfl, rfl, rfl⟩))
        clear hq la1 lb1 a0 b0
        have A33 := Lib.hid a33
        have B33 := Lib.hid b33
        clear a33 b33
        go_loopw [5] (fun x wi => ∃ k : Nat, x = .int .i64 (k : Int) ∧ k ≤ n ∧ Hid (∀ j (h1 : j < L.length) (h2 : j < M.length), j < k → L[j] = M[j]) ∧ Hid (Below w1.heap.size w1 wi)) (fun x _ => n - (intOf x).toNat)
        case atStart => exact ⟨0, rfl, by omega, Lib.hid (fun j _ _ h => absurd h (by omega)), Lib.hid (Below.refl _ _)⟩
        case round =>
          obtain ⟨k, rfl, hk, HK, HBi⟩ := hrel
          have a33 := (HBi.out.cell (p := ⟨w.heap.size, 33, none⟩) hla).trans A33.out
          have b33 := (HBi.out.cell (p := ⟨w.heap.size + 1, 33, none⟩) hlb).trans B33.out
          by_cases hlt : k < n
          · as_aux_lemma =>
            have hli : (k : Int) < (n : Int) := by omega
            have hlm : (k : Int) < (m : Int) := by have := HL.out; omega
            have hkL : k < L.length := by rw [HN.out]; exact hlt
            have hkM : k < M.length := by rw [HM.out]; have := HL.out; omega
            obtain ⟨gl, ol, rfl, hgl, htx⟩ := HT.out (by omega)
            obtain ⟨gm, om, rfl, hgm, hux⟩ := HU.out (by omega)
            have a0 := (HBi.out.cell (p := ⟨gl, ol + k * 2, none⟩) hgl).trans (htx k hkL).1
            have a1 := (HBi.out.cell (p := ⟨gl, ol + k * 2 + 1, none⟩) hgl).trans (htx k hkL).2
            have b0 := (HBi.out.cell (p := ⟨gm, om + k * 2, none⟩) hgm).trans (hux k hkM).1
            have b1 := (HBi.out.cell (p := ⟨gm, om + k * 2 + 1, none⟩) hgm).trans (hux k hkM).2
            have hpe := pt_eq hkL hkM
            have hnp := neq_pt (pAt L k) (pAt M k) (pB L k) (pB M k)
            rw [hpe] at hnp
            have HNE : Hid (decide (L[k] = M[k]) = false → L ≠ M) := Lib.hid (fun h => pt_ne_at L M k hkL hkM (of_decide_eq_false h))
            have HQ : Hid (decide (L[k] = M[k]) = true → ∀ j (h1 : j < L.length) (h2 : j < M.length), j < k + 1 → L[j] = M[j]) := Lib.hid (fun h j h1 h2 hj => by
              by_cases e : j = k
              · subst e; exact of_decide_eq_true h
              · exact HK.out j h1 h2 (by omega))
            clear htx hux hpe
            generalize pAt L k = za at *
            generalize pAt M k = zb at *
            generalize pB L k = sa at *
            generalize pB M k = sb at *
            generalize decide (L[k] = M[k]) = r at *
            cases r with
            | true =>
              go_upto_region 6 with fail
              refine wp_region_lin (S := (fun w' => w'.cell? ⟨w.heap.size, 33, none⟩ = some (.slice (some ⟨gl, ol, none⟩) n c) ∧ w'.cell? ⟨w.heap.size + 1, 33, none⟩ = some (.slice (some ⟨gm, om, none⟩) m d) ∧ LoadedM Try.prog 48 w' gl (ol + k * 2) [.int .i64 za, .string sa] ∧ LoadedM Try.prog 48 w' gm (om + k * 2) [.int .i64 zb, .string sb])) [(0, true), (1, true), (2, true), (3, true), (4, true), (5, true), (6, true), (7, true), (8, true), (9, true), (10, true)] (by kernel_rfl) (by kernel_rfl) rfl (by kernel_rfl) ?_ (fun hHeld => ?_)
              · (try dsimp only); exact ⟨a33, b33, loadedM_pt a0 a1, loadedM_pt b0 b1⟩
              refine wpL_calm (o := { dst := some 34, op := Go.Op.fieldAddr 26 (Go.Operand.tmp 2) 2, type := 0, pos := "ref.go:85", after := #[], guard := none }) (v := ?_) rfl (Or.inl ⟨by rfl, ?_⟩) ?_; rotate_left; (focus (intro w hSw; (try dsimp only at hSw); go_simp; (try (with_reducible rfl)); done)); try simp only [Act.put, List.setIfInBounds_toArray, List.set_cons_zero, List.set_cons_succ]
              refine wpL_calm (o := { dst := some 35, op := Go.Op.load 24 (Go.Operand.tmp 34), type := 24, pos := "ref.go:85", after := #[{ on := 0, ground := Go.Ground.data }], guard := none }) (v := ?_) rfl (Or.inl ⟨by rfl, ?_⟩) ?_; rotate_left; (focus (intro w hSw; (try dsimp only at hSw); go_simp; (try (with_reducible rfl)); done)); try simp only [Act.put, List.setIfInBounds_toArray, List.set_cons_zero, List.set_cons_succ]
              refine wpL_calm (o := { dst := some 36, op := Go.Op.move (Go.Operand.tmp 5), type := 3, pos := "ref.go:85", after := #[], guard := none }) (v := ?_) rfl (Or.inl ⟨by rfl, ?_⟩) ?_; rotate_left; (focus (intro w hSw; (try dsimp only at hSw); go_simp; (try (with_reducible rfl)); done)); try simp only [Act.put, List.setIfInBounds_toArray, List.set_cons_zero, List.set_cons_succ]
              refine wpL_calm (o := { dst := some 37, op := Go.Op.indexAddr 24 (Go.Operand.tmp 35) (Go.Operand.tmp 36), type := 0, pos := "ref.go:85", after := #[{ on := 1, ground := Go.Ground.data }, { on := 2, ground := Go.Ground.data }], guard := none }) (v := ?_) rfl (Or.inl ⟨by rfl, ?_⟩) ?_; rotate_left; (focus (intro w hSw; (try dsimp only at hSw); go_simp; (try (with_reducible rfl)); done)); try simp only [Act.put, List.setIfInBounds_toArray, List.set_cons_zero, List.set_cons_succ]
              refine wpL_calm (o := { dst := some 38, op := Go.Op.load 48 (Go.Operand.tmp 37), type := 48, pos := "ref.go:85", after := #[{ on := 3, ground := Go.Ground.data }], guard := none }) (v := .agg #[.int .i64 za, .string sa]) rfl (Or.inl ⟨by rfl, fun w' hS => hS.2.2.1.op _ rfl rfl⟩) ?_
              try simp only [Act.put, List.setIfInBounds_toArray, List.set_cons_zero, List.set_cons_succ]
              refine wpL_calm (o := { dst := some 39, op := Go.Op.fieldAddr 26 (Go.Operand.tmp 3) 2, type := 0, pos := "ref.go:85", after := #[], guard := none }) (v := ?_) rfl (Or.inl ⟨by rfl, ?_⟩) ?_; rotate_left; (focus (intro w hSw; (try dsimp only at hSw); go_simp; (try (with_reducible rfl)); done)); try simp only [Act.put, List.setIfInBounds_toArray, List.set_cons_zero, List.set_cons_succ]
              refine wpL_calm (o := { dst := some 40, op := Go.Op.load 24 (Go.Operand.tmp 39), type := 24, pos := "ref.go:85", after := #[{ on := 5, ground := Go.Ground.data }], guard := none }) (v := ?_) rfl (Or.inl ⟨by rfl, ?_⟩) ?_; rotate_left; (focus (intro w hSw; (try dsimp only at hSw); go_simp; (try (with_reducible rfl)); done)); try simp only [Act.put, List.setIfInBounds_toArray, List.set_cons_zero, List.set_cons_succ]
              refine wpL_calm (o := { dst := some 41, op := Go.Op.move (Go.Operand.tmp 5), type := 3, pos := "ref.go:85", after := #[], guard := none }) (v := ?_) rfl (Or.inl ⟨by rfl, ?_⟩) ?_; rotate_left; (focus (intro w hSw; (try dsimp only at hSw); go_simp; (try (with_reducible rfl)); done)); try simp only [Act.put, List.setIfInBounds_toArray, List.set_cons_zero, List.set_cons_succ]
              refine wpL_calm (o := { dst := some 42, op := Go.Op.indexAddr 24 (Go.Operand.tmp 40) (Go.Operand.tmp 41), type := 0, pos := "ref.go:85", after := #[{ on := 6, ground := Go.Ground.data }, { on := 7, ground := Go.Ground.data }], guard := none }) (v := ?_) rfl (Or.inl ⟨by rfl, ?_⟩) ?_; rotate_left; (focus (intro w hSw; (try dsimp only at hSw); go_simp; (try (with_reducible rfl)); done)); try simp only [Act.put, List.setIfInBounds_toArray, List.set_cons_zero, List.set_cons_succ]
              refine wpL_calm (o := { dst := some 43, op := Go.Op.load 48 (Go.Operand.tmp 42), type := 48, pos := "ref.go:85", after := #[{ on := 8, ground := Go.Ground.data }], guard := none }) (v := .agg #[.int .i64 zb, .string sb]) rfl (Or.inl ⟨by rfl, fun w' hS => hS.2.2.2.op _ rfl rfl⟩) ?_
              try simp only [Act.put, List.setIfInBounds_toArray, List.set_cons_zero, List.set_cons_succ]
              refine wpL_calm (o := { dst := some 44, op := Go.Op.binOp Go.BinOp.neq 48 (Go.Operand.tmp 38) (Go.Operand.tmp 43) 48, type := 4, pos := "ref.go:85", after := #[{ on := 4, ground := Go.Ground.data }, { on := 9, ground := Go.Ground.data }], guard := none }) (v := .bool false) rfl (Or.inl ⟨by rfl, fun w _ => run_bin_op _ _ _ _ _ rfl eqg_pt rfl rfl (hnp w)⟩) ?_
              try simp only [Act.put, List.setIfInBounds_toArray, List.set_cons_zero, List.set_cons_succ]
              refine wpL_nil ?_
              refine NoPanic.normal ?_
              clear hHeld a0 a1 b0 b1 a33 b33
              go_wp2_with fail
              go_roundw
              case rel => exact ⟨k + 1, by go_num, by omega, Lib.hid (HQ.out rfl), Lib.hid HBi.out.drew⟩
              case measure => simp [intOf]; omega
            | false =>
              go_upto_region 6 with fail
              refine wp_region_lin (S := (fun w' => w'.cell? ⟨w.heap.size, 33, none⟩ = some (.slice (some ⟨gl, ol, none⟩) n c) ∧ w'.cell? ⟨w.heap.size + 1, 33, none⟩ = some (.slice (some ⟨gm, om, none⟩) m d) ∧ LoadedM Try.prog 48 w' gl (ol + k * 2) [.int .i64 za, .string sa] ∧ LoadedM Try.prog 48 w' gm (om + k * 2) [.int .i64 zb, .string sb])) [(0, true), (1, true), (2, true), (3, true), (4, true), (5, true), (6, true), (7, true), (8, true), (9, true), (10, true)] (by kernel_rfl) (by kernel_rfl) rfl (by kernel_rfl) ?_ (fun hHeld => ?_)
              · (try dsimp only); exact ⟨a33, b33, loadedM_pt a0 a1, loadedM_pt b0 b1⟩
              refine wpL_calm (o := { dst := some 34, op := Go.Op.fieldAddr 26 (Go.Operand.tmp 2) 2, type := 0, pos := "ref.go:85", after := #[], guard := none }) (v := ?_) rfl (Or.inl ⟨by rfl, ?_⟩) ?_; rotate_left; (focus (intro w hSw; (try dsimp only at hSw); go_simp; (try (with_reducible rfl)); done)); try simp only [Act.put, List.setIfInBounds_toArray, List.set_cons_zero, List.set_cons_succ]
              refine wpL_calm (o := { dst := some 35, op := Go.Op.load 24 (Go.Operand.tmp 34), type := 24, pos := "ref.go:85", after := #[{ on := 0, ground := Go.Ground.data }], guard := none }) (v := ?_) rfl (Or.inl ⟨by rfl, ?_⟩) ?_; rotate_left; (focus (intro w hSw; (try dsimp only at hSw); go_simp; (try (with_reducible rfl)); done)); try simp only [Act.put, List.setIfInBounds_toArray, List.set_cons_zero, List.set_cons_succ]
              refine wpL_calm (o := { dst := some 36, op := Go.Op.move (Go.Operand.tmp 5), type := 3, pos := "ref.go:85", after := #[], guard := none }) (v := ?_) rfl (Or.inl ⟨by rfl, ?_⟩) ?_; rotate_left; (focus (intro w hSw; (try dsimp only at hSw); go_simp; (try (with_reducible rfl)); done)); try simp only [Act.put, List.setIfInBounds_toArray, List.set_cons_zero, List.set_cons_succ]
              refine wpL_calm (o := { dst := some 37, op := Go.Op.indexAddr 24 (Go.Operand.tmp 35) (Go.Operand.tmp 36), type := 0, pos := "ref.go:85", after := #[{ on := 1, ground := Go.Ground.data }, { on := 2, ground := Go.Ground.data }], guard := none }) (v := ?_) rfl (Or.inl ⟨by rfl, ?_⟩) ?_; rotate_left; (focus (intro w hSw; (try dsimp only at hSw); go_simp; (try (with_reducible rfl)); done)); try simp only [Act.put, List.setIfInBounds_toArray, List.set_cons_zero, List.set_cons_succ]
              refine wpL_calm (o := { dst := some 38, op := Go.Op.load 48 (Go.Operand.tmp 37), type := 48, pos := "ref.go:85", after := #[{ on := 3, ground := Go.Ground.data }], guard := none }) (v := .agg #[.int .i64 za, .string sa]) rfl (Or.inl ⟨by rfl, fun w' hS => hS.2.2.1.op _ rfl rfl⟩) ?_
              try simp only [Act.put, List.setIfInBounds_toArray, List.set_cons_zero, List.set_cons_succ]
              refine wpL_calm (o := { dst := some 39, op := Go.Op.fieldAddr 26 (Go.Operand.tmp 3) 2, type := 0, pos := "ref.go:85", after := #[], guard := none }) (v := ?_) rfl (Or.inl ⟨by rfl, ?_⟩) ?_; rotate_left; (focus (intro w hSw; (try dsimp only at hSw); go_simp; (try (with_reducible rfl)); done)); try simp only [Act.put, List.setIfInBounds_toArray, List.set_cons_zero, List.set_cons_succ]
              refine wpL_calm (o := { dst := some 40, op := Go.Op.load 24 (Go.Operand.tmp 39), type := 24, pos := "ref.go:85", after := #[{ on := 5, ground := Go.Ground.data }], guard := none }) (v := ?_) rfl (Or.inl ⟨by rfl, ?_⟩) ?_; rotate_left; (focus (intro w hSw; (try dsimp only at hSw); go_simp; (try (with_reducible rfl)); done)); try simp only [Act.put, List.setIfInBounds_toArray, List.set_cons_zero, List.set_cons_succ]
              refine wpL_calm (o := { dst := some 41, op := Go.Op.move (Go.Operand.tmp 5), type := 3, pos := "ref.go:85", after := #[], guard := none }) (v := ?_) rfl (Or.inl ⟨by rfl, ?_⟩) ?_; rotate_left; (focus (intro w hSw; (try dsimp only at hSw); go_simp; (try (with_reducible rfl)); done)); try simp only [Act.put, List.setIfInBounds_toArray, List.set_cons_zero, List.set_cons_succ]
              refine wpL_calm (o := { dst := some 42, op := Go.Op.indexAddr 24 (Go.Operand.tmp 40) (Go.Operand.tmp 41), type := 0, pos := "ref.go:85", after := #[{ on := 6, ground := Go.Ground.data }, { on := 7, ground := Go.Ground.data }], guard := none }) (v := ?_) rfl (Or.inl ⟨by rfl, ?_⟩) ?_; rotate_left; (focus (intro w hSw; (try dsimp only at hSw); go_simp; (try (with_reducible rfl)); done)); try simp only [Act.put, List.setIfInBounds_toArray, List.set_cons_zero, List.set_cons_succ]
              refine wpL_calm (o := { dst := some 43, op := Go.Op.load 48 (Go.Operand.tmp 42), type := 48, pos := "ref.go:85", after := #[{ on := 8, ground := Go.Ground.data }], guard := none }) (v := .agg #[.int .i64 zb, .string sb]) rfl (Or.inl ⟨by rfl, fun w' hS => hS.2.2.2.op _ rfl rfl⟩) ?_
              try simp only [Act.put, List.setIfInBounds_toArray, List.set_cons_zero, List.set_cons_succ]
              refine wpL_calm (o := { dst := some 44, op := Go.Op.binOp Go.BinOp.neq 48 (Go.Operand.tmp 38) (Go.Operand.tmp 43) 48, type := 4, pos := "ref.go:85", after := #[{ on := 4, ground := Go.Ground.data }, { on := 9, ground := Go.Ground.data }], guard := none }) (v := .bool true) rfl (Or.inl ⟨by rfl, fun w _ => run_bin_op _ _ _ _ _ rfl eqg_pt rfl rfl (hnp w)⟩) ?_
              try simp only [Act.put, List.setIfInBounds_toArray, List.set_cons_zero, List.set_cons_succ]
              refine wpL_nil ?_
              refine NoPanic.normal ?_
              clear hHeld a0 a1 b0 b1 a33 b33
              go_wp2_with fail
              go_ret
              have HZ : Hid (z = false) := Lib.hid (by rw [HEQ.out]; exact decide_eq_false (HNE.out (by first | rfl | trivial)))
              exact ⟨by rw [HZ.out]; first | done | rfl, HB.out.trans (HBi.out.drew.mono HB.out.size)⟩
          · as_aux_lemma =>
            obtain rfl : k = n := by omega
            have HZ : Hid (z = true) := Lib.hid (by rw [HEQ.out]; exact decide_eq_true (List.ext_getElem (by rw [HN.out, HM.out, HL.out]) (fun j h1 h2 => HK.out j h1 h2 (by rw [← HN.out]; exact h1))))
            go_wp2_with fail
            go_ret
            exact ⟨by rw [HZ.out]; first | done | rfl, HB.out.trans (HBi.out.mono HB.out.size)⟩
      · have e1 : ((n : Int) != (m : Int)) = true := by rw [bne_iff_ne]; omega
        have HZ : Hid (z = false) := Lib.hid (by rw [HEQ.out]; exact decide_eq_false (fun e => by subst e; omega))
        clear hn hm
        go_enter Try.func18, Try.ntmps18
        go_upto_region 1 with fail
        rw [HW.out]
        clear HW
        go_wp2_with (first | ((with_reducible refine wpList_load_mid_i (g := w.heap.size) (off := 1) (cs := ra) 23 _ rfl ?_ ?_ ?_); exact ⟨rfl, rfl⟩; assumption) | ((with_reducible refine wpList_load_mid_i (g := w.heap.size + 1) (off := 1) (cs := rb) 23 _ rfl ?_ ?_ ?_); exact ⟨rfl, rfl⟩; assumption) | ((with_reducible refine wpList_bin_g (vx := ra.toArray) (vy := rb.toArray) (r := .bool false) _ _ _ _ _ rfl eqg_root ?_ hq ?_); exact ⟨rfl, rfl, rfl⟩))
        go_ret
        exact ⟨by rw [HZ.out]; first | done | rfl, HB.out⟩
    · rw [rcEq_root hr]
      have la1 := loadedM_root hA
      have lb1 := loadedM_root hB
      have hq := neq_root A.root B.root ha hb w1
      rw [decide_eq_false hr, Bool.not_false] at hq
      rw [← hs] at b0
      generalize A.seq = sa at *
      generalize rootV A.root = ra at *
      generalize rootV B.root = rb at *
      clear hs hr ha hb hn hm hT hU hA hB
      go_enter Try.func18, Try.ntmps18
      go_upto_region 1 with fail
      rw [HW.out]
      clear HW
      go_wp2_with (first | ((with_reducible refine wpList_load_mid_i (g := w.heap.size) (off := 1) (cs := ra) 23 _ rfl ?_ ?_ ?_); exact ⟨rfl, rfl⟩; assumption) | ((with_reducible refine wpList_load_mid_i (g := w.heap.size + 1) (off := 1) (cs := rb) 23 _ rfl ?_ ?_ ?_); exact ⟨rfl, rfl⟩; assumption) | ((with_reducible refine wpList_bin_g (vx := ra.toArray) (vy := rb.toArray) (r := .bool true) _ _ _ _ _ rfl eqg_root ?_ hq ?_); exact ⟨rfl, rfl, rfl⟩))
      go_ret
      exact ⟨rfl, HB.out⟩
  · rw [rcEq_seq hs]
    have hq : (A.seq != B.seq) = true := by simpa using hs
    generalize A.seq = sa at *
    generalize B.seq = sb at *
    clear hs ha hb hn hm hT hU hA hB
    go_enter Try.func18, Try.ntmps18
    go_upto_region 1 with fail
    rw [HW.out]
    clear HW
    go_wp2_with fail
    go_ret
    exact ⟨rfl, HB.out⟩
end Go.Proofs.Ythhaadcpenlnkaa
