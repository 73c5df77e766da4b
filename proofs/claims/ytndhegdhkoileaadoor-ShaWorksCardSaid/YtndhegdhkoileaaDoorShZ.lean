/- The law ShaConstants: its walk. -/
import Derived.Test.YtndhegdhkoileaaDoorShY
namespace Go.Proofs.YtndhegdhkoileaaDoor
open Go.RowKit Go.Deep
set_option linter.unusedVariables false
set_option linter.unusedSimpArgs false
theorem own_row {w : World} {base : Nat} {v : Value} {l : List Nat} {n : Nat} (h : w.ownsRow base 3 1 v n (nv l)) (hn : 0 < n) : ∃ g c, v = .slice (some ⟨g, 0, none⟩) n c ∧ n ≤ c ∧ base ≤ g ∧ g < w.heap.size ∧ w.rangeAt g 0 (nv l) := by
  rcases h.2 with ⟨rfl, rfl⟩ | ⟨g, cap, cur, rfl, hb, hg, hnc, hcm, _⟩
  · omega
  · refine ⟨g, cap, rfl, hnc, hb, (Array.getElem?_eq_some_iff.1 hg).1, fun j u hu => ?_⟩
    have := h.cells (g := g) rfl j u hu
    rw [Nat.zero_add]
    rwa [Addr.add_mid, Nat.zero_add] at this
theorem i64_u32 (x : UInt32) : IntKind.i64.wrap (x.toNat : Int) = (x.toNat : Int) := wrap64 _ (by omega) (by have := x.toNat_lt; omega)
set_option maxRecDepth 100000 in
set_option maxHeartbeats 2000000 in
theorem shaConstants_walk (k : Int) (w : World) (hw : (Lit.int .i64 k).wf = true) (hG : Gl w) : Calls Tryd.prog 6 #[.int .i64 k] w fun e w' => e = .returned (.bool true) ∧ Below w.heap.size w w' := by
  obtain ⟨c, er, hcon, hcase⟩ : ∃ (c : UInt32) (er : Int), Hid (Calls Tryd.prog 19 #[.int .i64 k] w fun e w' => e = .returned (.tuple #[.int .u32 (c.toNat : Int), .int .i64 er]) ∧ w = w') ∧ Hid (((k < 0 ∨ 63 < k) ∧ c = 0 ∧ er = 3) ∨ ∃ n : Nat, k = (n : Int) ∧ n < 64 ∧ c = kc n ∧ er = 0) := by
    by_cases hk : k < 0 ∨ 63 < k
    · exact ⟨0, 3, Lib.hid (constant_bad k w hk), Lib.hid (Or.inl ⟨hk, rfl, rfl⟩)⟩
    · have hkn : k = ((k.toNat : Nat) : Int) := by omega
      exact ⟨kc k.toNat, 0, Lib.hid (by have := constant_ok k.toNat w hG (by omega); rwa [← hkn] at this), Lib.hid (Or.inr ⟨k.toNat, hkn, by omega, rfl, rfl⟩)⟩
  have hzw := zero_w8
  go_enter Tryd.func6, Tryd.ntmps6
  go_wp2_with fail
  refine hcon.out.mono ?_
  rintro e w1 ⟨rfl, rfl⟩
  clear hcon
  go_wp2_with fail
  refine (words_any w hG).mono ?_
  rintro e w2 ⟨rfl, B2⟩
  go_wp2_with fail
  refine (first_any w2).mono ?_
  rintro e w3 ⟨rfl, hr3, b3⟩
  have B3 := B2.trans (b3.mono B2.size)
  have hs23 : w2.heap.size < w3.heap.size := (Array.getElem?_eq_some_iff.1 hr3).1
  clear b3 B2
  generalize w2.heap.size = g2 at *
  obtain ⟨w4, HW4, hv4, b4⟩ := stored_w8r w3 v0
  go_upto_region 3 with (refine wpList_store_row rfl _ _ _ rfl w3.heap.size (vL v0).toArray rfl rfl 29 _ (heap_alloc_new _ _) (by kernel_rfl) rfl (by simp [vL, Value.oneCell']) ?_)
  rw [HW4.out]
  clear HW4
  have hr4 := (b4.block g2 hs23).trans hr3
  have B4 := B3.trans (b4.mono B3.size)
  clear hr3 b4 B3
  generalize w3.heap.size = g3 at *
  have HV := Lib.hid hv4
  have HR := Lib.hid hr4
  clear hv4 hr4
  go_wp2_with fail
  go_loopw [7] (fun x wi => ∃ i : Nat, x = .int .i64 i ∧ i ≤ 8 ∧ Hid (wi.heap[g3]? = some (.cells (vL v0).toArray 29 (0, 0))) ∧ Hid (wi.heap[g2]? = some (.cells (nv fN).toArray 3 (0, 0))) ∧ Hid (Below w.heap.size w wi)) (fun x _ => 8 - (intOf x).toNat)
  case atStart => exact ⟨0, rfl, by omega, HV, HR, Lib.hid B4⟩
  clear HV HR B4
  case round =>
    obtain ⟨i, rfl, hi, HV, HR, HB⟩ := hrel
    by_cases hlt : i < 8
    · have hli : (i : Int) < 8 := by omega
      obtain ⟨q1, q2⟩ := v0_nat i hlt
      have c1 : wr.cell? ⟨g3, i, none⟩ = some (.int .u32 ((v0.at i).toNat : Int)) := by rw [cell_of_row wr g3 i _ _ _ HV.out, List.getElem?_toArray]; exact q2
      have c2 : wr.cell? ⟨g2, i, none⟩ = some (.int .i64 ((v0.at i).toNat : Int)) := by rw [cell_of_row wr g2 i _ _ _ HR.out, List.getElem?_toArray]; exact q1
      have hwr := i64_u32 (v0.at i)
      generalize v0.at i = x at *
      clear q1 q2
      go_wp2_with fail
      refine wp_region_lin (S := (fun w' => w'.cell? ⟨g3, i, none⟩ = some (.int .u32 (x.toNat : Int)) ∧ w'.cell? ⟨g2, i, none⟩ = some (.int .i64 (x.toNat : Int)))) [(0, true), (1, true), (2, true), (3, true), (4, true), (5, true), (6, true), (7, true), (8, true)] (by kernel_rfl) (by kernel_rfl) rfl (by kernel_rfl) ?_ (fun hHeld => ?_)
      · (try dsimp only); exact ⟨c1, c2⟩
      (refine wpL_calm (o := { dst := some 26, op := Go.Op.move (Go.Operand.tmp 7), type := 3, pos := "law.go:63", after := #[], guard := none }) (v := ?_) rfl (Or.inl ⟨by rfl, ?_⟩) ?_; rotate_left; (focus (intro w hSw; (try dsimp only at hSw); go_simp; (try (with_reducible rfl)); done)); try simp only [Act.put, List.setIfInBounds_toArray, List.set_cons_zero, List.set_cons_succ])
      (refine wpL_calm (o := { dst := some 27, op := Go.Op.indexAddr 29 (Go.Operand.tmp 5) (Go.Operand.tmp 26), type := 0, pos := "law.go:63", after := #[{ on := 0, ground := Go.Ground.data }], guard := none }) (v := ?_) rfl (Or.inl ⟨by rfl, ?_⟩) ?_; rotate_left; (focus (intro w hSw; (try dsimp only at hSw); go_simp; (try (with_reducible rfl)); done)); try simp only [Act.put, List.setIfInBounds_toArray, List.set_cons_zero, List.set_cons_succ])
      (refine wpL_calm (o := { dst := some 28, op := Go.Op.load 28 (Go.Operand.tmp 27), type := 28, pos := "law.go:63", after := #[{ on := 1, ground := Go.Ground.data }], guard := none }) (v := ?_) rfl (Or.inl ⟨by rfl, ?_⟩) ?_; rotate_left; (focus (intro w hSw; (try dsimp only at hSw); go_simp; (try (with_reducible rfl)); done)); try simp only [Act.put, List.setIfInBounds_toArray, List.set_cons_zero, List.set_cons_succ])
      (refine wpL_calm (o := { dst := some 29, op := Go.Op.convert 28 3 (Go.Operand.tmp 28), type := 3, pos := "law.go:63", after := #[{ on := 2, ground := Go.Ground.data }], guard := none }) (v := ?_) rfl (Or.inl ⟨by rfl, ?_⟩) ?_; rotate_left; (focus (intro w hSw; (try dsimp only at hSw); go_simp; (try (with_reducible rfl)); done)); try simp only [Act.put, List.setIfInBounds_toArray, List.set_cons_zero, List.set_cons_succ])
      (refine wpL_calm (o := { dst := some 30, op := Go.Op.move (Go.Operand.tmp 6), type := 33, pos := "law.go:63", after := #[], guard := none }) (v := ?_) rfl (Or.inl ⟨by rfl, ?_⟩) ?_; rotate_left; (focus (intro w hSw; (try dsimp only at hSw); go_simp; (try (with_reducible rfl)); done)); try simp only [Act.put, List.setIfInBounds_toArray, List.set_cons_zero, List.set_cons_succ])
      (refine wpL_calm (o := { dst := some 31, op := Go.Op.move (Go.Operand.tmp 7), type := 3, pos := "law.go:63", after := #[], guard := none }) (v := ?_) rfl (Or.inl ⟨by rfl, ?_⟩) ?_; rotate_left; (focus (intro w hSw; (try dsimp only at hSw); go_simp; (try (with_reducible rfl)); done)); try simp only [Act.put, List.setIfInBounds_toArray, List.set_cons_zero, List.set_cons_succ])
      (refine wpL_calm (o := { dst := some 32, op := Go.Op.indexAddr 33 (Go.Operand.tmp 30) (Go.Operand.tmp 31), type := 0, pos := "law.go:63", after := #[{ on := 4, ground := Go.Ground.data }, { on := 5, ground := Go.Ground.data }], guard := none }) (v := ?_) rfl (Or.inl ⟨by rfl, ?_⟩) ?_; rotate_left; (focus (intro w hSw; (try dsimp only at hSw); go_simp; (try (with_reducible rfl)); done)); try simp only [Act.put, List.setIfInBounds_toArray, List.set_cons_zero, List.set_cons_succ])
      (refine wpL_calm (o := { dst := some 33, op := Go.Op.load 3 (Go.Operand.tmp 32), type := 3, pos := "law.go:63", after := #[{ on := 6, ground := Go.Ground.data }], guard := none }) (v := ?_) rfl (Or.inl ⟨by rfl, ?_⟩) ?_; rotate_left; (focus (intro w hSw; (try dsimp only at hSw); go_simp; (try (with_reducible rfl)); done)); try simp only [Act.put, List.setIfInBounds_toArray, List.set_cons_zero, List.set_cons_succ])
      (refine wpL_calm (o := { dst := some 34, op := Go.Op.binOp Go.BinOp.neq 3 (Go.Operand.tmp 29) (Go.Operand.tmp 33) 3, type := 4, pos := "law.go:63", after := #[{ on := 3, ground := Go.Ground.data }, { on := 7, ground := Go.Ground.data }], guard := none }) (v := ?_) rfl (Or.inl ⟨by rfl, ?_⟩) ?_; rotate_left; (focus (intro w hSw; (try dsimp only at hSw); go_simp; (try (with_reducible rfl)); done)); try simp only [Act.put, List.setIfInBounds_toArray, List.set_cons_zero, List.set_cons_succ])
      refine wpL_nil ?_
      refine NoPanic.normal ?_
      clear hHeld c1 c2
      go_wp2_with fail
      go_roundw
      case rel => exact ⟨i + 1, by go_num, by omega, HV, HR, Lib.hid HB.out.drew⟩
      case measure => simp [intOf]; omega
    · obtain rfl : i = 8 := by omega
      have GR := hG.below HB.out
      have HSZ := HB.out.size
      have HBB := HB
      rcases hcase.out with ⟨hk, rfl, rfl⟩ | ⟨n, rfl, hn, rfl, rfl⟩
      · have HAW := Lib.hid (awake_any wr GR)
        rcases hk with hk | hk
        · go_wp2_with fail
          refine HAW.out.mono ?_
          rintro e w5 ⟨rfl, b5⟩
          go_wp2_with fail
          go_ret
          exact ⟨rfl, HBB.out.trans (b5.mono HSZ)⟩
        · have hk0 : ¬ k < 0 := by omega
          go_wp2_with fail
          refine HAW.out.mono ?_
          rintro e w5 ⟨rfl, b5⟩
          go_wp2_with fail
          go_ret
          exact ⟨rfl, HBB.out.trans (b5.mono HSZ)⟩
      · have hn1 : ¬ ((63 : Int) < (n : Int)) := by omega
        have hn2 : (n : Int) < 64 := by omega
        have HQ := Lib.hid (kN_at n hn)
        have HC := Lib.hid (constants_any wr)
        have hwr := i64_u32 (kc n)
        generalize klist.map (·.toNat) = KN at *
        generalize kc n = x at *
        go_wp2_with fail
        refine HC.out.mono ?_
        rintro e w5 ⟨v, rfl, hO, b5⟩
        obtain ⟨g, cp, rfl, hcp, hbg, hgs, hrg⟩ := own_row hO (by omega)
        have G5 := GR.below b5
        have B5 := HBB.out.trans (b5.mono HSZ)
        clear hO b5
        go_wp2_with fail
        refine (awake_any w5 G5).mono ?_
        rintro e w6 ⟨rfl, b6⟩
        have hcx : w6.cell? ⟨g, n, none⟩ = some (.int .i64 (x.toNat : Int)) := by
          have := hrg n _ HQ.out
          rw [Nat.zero_add] at this
          exact (b6.cell (p := ⟨g, n, none⟩) hgs).trans this
        have B6 := B5.trans (b6.mono B5.size)
        clear hrg b6
        go_wp2_with fail
        go_ret
        exact ⟨rfl, B6⟩
end Go.Proofs.YtndhegdhkoileaaDoor
