/- Opening lists of acts and answers; the law TallyCounts. -/
import Derived.Test.YtnbmpackjgffaaaTaJ
import Derived.Test.YtnbmpackjgffaaaOpenR
namespace Go.Proofs.Ytnbmpackjgffaaa
open Go.RowKit Go.Deep Go.ChangeShapes Go.WideShapes
set_option linter.unusedVariables false
attribute [local go_sem] unary_negf run_store_complex run_store_float
theorem act_fields : ∃ fs f0, Try.prog.underlying 57 = some (.struct fs) ∧ fs[0]? = some f0 ∧ f0.type = 3 ∧ f0.offset = 0 ∧ Try.prog.cellsOf f0.type = 1 :=
  ⟨_, _, Try.underlying57, rfl, rfl, rfl, by kernel_rfl⟩
theorem told_fields : ∃ fs f0 f1, Try.prog.underlying 60 = some (.struct fs) ∧ fs[0]? = some f0 ∧ f0.type = 58 ∧ f0.offset = 0 ∧ Try.prog.cellsOf f0.type = 1 ∧ fs[1]? = some f1 ∧ f1.type = 9 ∧ f1.offset = 1 ∧ Try.prog.cellsOf f1.type = 1 :=
  ⟨_, _, _, Try.underlying60, rfl, rfl, rfl, by kernel_rfl, rfl, rfl, rfl, by kernel_rfl⟩
section
variable {H : Type} {enc : TypeId × Value → H} {w : World}
theorem cells11 (cs : List Value) (h : cs.length = 11) : ∃ v0 v1 v2 v3 v4 v5 v6 v7 v8 v9 v10, cs = [v0, v1, v2, v3, v4, v5, v6, v7, v8, v9, v10] :=
  match cs, h with | [a, b, c, d, e, f, g, h, i, j, k], _ => ⟨a, b, c, d, e, f, g, h, i, j, k, rfl⟩
theorem open_acts {v : Value} {d : DataW H} {p : List MemPlace} (hok : ∃ a len cap, v = .slice a len cap) (h : DataW.Trod enc Try.prog w 0 (fun _ => true) true 22 v d p)
    (z : ∀ es sp, d = .slice es sp → (es.length + sp.length) * Try.prog.bytesOf 57 ≤ reachBytes) : ∃ ao n c K, v = .slice ao n c ∧ n ≤ 4503599627370496 ∧ (n ≤ c ∧ c ≤ 9223372036854775807) ∧ ActsAt w ao n K := by
  obtain ⟨fs, f0, hu, hf0, ht0, ho0, hc0⟩ := act_fields
  obtain ⟨ao, n, c, rfl, hcap, hm, hb, hr⟩ := open_rows (B := 128) Try.underlying22 hu (C := 11) (by kernel_rfl) (by omega) hok h (by kernel_rfl) z
  have hex : ∀ i, i < n → ∃ k : Int, ∀ b off, ao = some ⟨b, off, none⟩ → ∃ v1 v2 v3 v4 v5 v6 v7 v8 v9 v10 : Value,
    w.cell? ⟨b, off + i * 11, none⟩ = some (.int .i64 k) ∧ w.cell? ⟨b, off + i * 11 + 1, none⟩ = some v1 ∧ w.cell? ⟨b, off + i * 11 + 2, none⟩ = some v2 ∧ w.cell? ⟨b, off + i * 11 + 3, none⟩ = some v3 ∧
    w.cell? ⟨b, off + i * 11 + 4, none⟩ = some v4 ∧ w.cell? ⟨b, off + i * 11 + 5, none⟩ = some v5 ∧ w.cell? ⟨b, off + i * 11 + 6, none⟩ = some v6 ∧ w.cell? ⟨b, off + i * 11 + 7, none⟩ = some v7 ∧
    w.cell? ⟨b, off + i * 11 + 8, none⟩ = some v8 ∧ w.cell? ⟨b, off + i * 11 + 9, none⟩ = some v9 ∧ w.cell? ⟨b, off + i * 11 + 10, none⟩ = some v10 := fun i hi => by
    obtain ⟨b, off, rfl, hlt, hall⟩ := hr (by omega)
    obtain ⟨m, cs, hl, hcell, hfld⟩ := hall i hi
    obtain ⟨y0, hy0⟩ := hfld 0 f0 hf0
    obtain ⟨v0, v1, v2, v3, v4, v5, v6, v7, v8, v9, v10, rfl⟩ := cells11 cs hl
    rw [ho0, hc0, ht0] at hy0
    obtain ⟨k, hk, _⟩ := field_int Try.underlying3 (show DataW.trod enc Try.prog w 0 (fun _ => true) true m 3 [v0] = some y0 from hy0)
    subst hk
    refine ⟨k, fun b' off' he => ?_⟩
    cases he
    exact ⟨v1, v2, v3, v4, v5, v6, v7, v8, v9, v10, hcell 0 (by omega), hcell 1 (by omega), hcell 2 (by omega), hcell 3 (by omega), hcell 4 (by omega), hcell 5 (by omega), hcell 6 (by omega), hcell 7 (by omega), hcell 8 (by omega), hcell 9 (by omega), hcell 10 (by omega)⟩
  obtain ⟨K, hK⟩ := choose_lt hex
  refine ⟨ao, n, c, K, rfl, by omega, ⟨hcap, by unfold maxLen at hm; omega⟩, fun hpos => ?_⟩
  obtain ⟨b, off, rfl, hlt, _⟩ := hr hpos
  exact ⟨b, off, rfl, hlt, fun i hi => hK i hi b off rfl⟩
theorem cells3 (cs : List Value) (h : cs.length = 3) : ∃ v0 v1 v2, cs = [v0, v1, v2] :=
  match cs, h with | [a, b, c], _ => ⟨a, b, c, rfl⟩
theorem open_told {v : Value} {d : DataW H} {p : List MemPlace} (hok : ∃ a len cap, v = .slice a len cap) (h : DataW.Trod enc Try.prog w 0 (fun _ => true) true 23 v d p)
    (z : ∀ es sp, d = .slice es sp → (es.length + sp.length) * Try.prog.bytesOf 60 ≤ reachBytes) : ∃ ao n c E S, v = .slice ao n c ∧ n ≤ 4503599627370496 ∧ (n ≤ c ∧ c ≤ 9223372036854775807) ∧ ToldAt w ao n E S := by
  obtain ⟨fs, f0, f1, hu, hf0, ht0, ho0, hc0, hf1, ht1, ho1, hc1⟩ := told_fields
  obtain ⟨ao, n, c, rfl, hcap, hm, hb, hr⟩ := open_rows (B := 32) Try.underlying23 hu (C := 3) (by kernel_rfl) (by omega) hok h (by kernel_rfl) z
  have hex : ∀ i, i < n → ∃ k : Int × ByteArray, ∀ b off, ao = some ⟨b, off, none⟩ → ∃ v : Value,
    w.cell? ⟨b, off + i * 3, none⟩ = some (.int .i64 k.1) ∧ w.cell? ⟨b, off + i * 3 + 1, none⟩ = some (.string k.2) ∧ w.cell? ⟨b, off + i * 3 + 2, none⟩ = some v := fun i hi => by
    obtain ⟨b, off, rfl, hlt, hall⟩ := hr (by omega)
    obtain ⟨m, cs, hl, hcell, hfld⟩ := hall i hi
    obtain ⟨y0, hy0⟩ := hfld 0 f0 hf0
    obtain ⟨y1, hy1⟩ := hfld 1 f1 hf1
    obtain ⟨v0, v1, v2, rfl⟩ := cells3 cs hl
    rw [ho0, hc0, ht0] at hy0
    rw [ho1, hc1, ht1] at hy1
    obtain ⟨k, hk, _⟩ := field_int Try.underlying58 (show DataW.trod enc Try.prog w 0 (fun _ => true) true m 58 [v0] = some y0 from hy0)
    obtain ⟨s, hs⟩ := field_str Try.underlying9 (show DataW.trod enc Try.prog w 0 (fun _ => true) true m 9 [v1] = some y1 from hy1)
    subst hk hs
    refine ⟨(k, s), fun b' off' he => ?_⟩
    cases he
    exact ⟨v2, hcell 0 (by omega), hcell 1 (by omega), hcell 2 (by omega)⟩
  obtain ⟨K, hK⟩ := choose_lt hex
  refine ⟨ao, n, c, fun i => (K i).1, fun i => (K i).2, rfl, by omega, ⟨hcap, by unfold maxLen at hm; omega⟩, fun hpos => ?_⟩
  obtain ⟨b, off, rfl, hlt, _⟩ := hr hpos
  exact ⟨b, off, rfl, hlt, fun i hi => hK i hi b off rfl⟩
end
theorem ActsAt.below {w w' : World} {ao : Option Addr} {n : Nat} {K : Nat → Int} (h : ActsAt w ao n K) (hb : Below w.heap.size w w') : ActsAt w' ao n K := fun hp => by
  obtain ⟨b, off, rfl, hlt, hall⟩ := h hp
  refine ⟨b, off, rfl, Nat.lt_of_lt_of_le hlt hb.size, fun i hi => ?_⟩
  obtain ⟨v1, v2, v3, v4, v5, v6, v7, v8, v9, v10, a0, a1, a2, a3, a4, a5, a6, a7, a8, a9, a10⟩ := hall i hi
  have k : ∀ o v, w.cell? ⟨b, o, none⟩ = some v → w'.cell? ⟨b, o, none⟩ = some v := fun o v hv => (hb.cell (p := ⟨b, o, none⟩) hlt).trans hv
  exact ⟨v1, v2, v3, v4, v5, v6, v7, v8, v9, v10, k _ _ a0, k _ _ a1, k _ _ a2, k _ _ a3, k _ _ a4, k _ _ a5, k _ _ a6, k _ _ a7, k _ _ a8, k _ _ a9, k _ _ a10⟩
theorem ToldAt.below {w w' : World} {ao : Option Addr} {n : Nat} {E : Nat → Int} {S : Nat → ByteArray} (h : ToldAt w ao n E S) (hb : Below w.heap.size w w') : ToldAt w' ao n E S := fun hp => by
  obtain ⟨b, off, rfl, hlt, hall⟩ := h hp
  refine ⟨b, off, rfl, Nat.lt_of_lt_of_le hlt hb.size, fun i hi => ?_⟩
  obtain ⟨v, a0, a1, a2⟩ := hall i hi
  have k : ∀ o v, w.cell? ⟨b, o, none⟩ = some v → w'.cell? ⟨b, o, none⟩ = some v := fun o v hv => (hb.cell (p := ⟨b, o, none⟩) hlt).trans hv
  exact ⟨v, k _ _ a0, k _ _ a1, k _ _ a2⟩
theorem fi_eq_self (n : Int) (h : n.natAbs < 9007199254740992) : (FloatKind.f64.format.order (fi n) (fi n) == some Ordering.eq) = true := by
  rw [show FloatKind.f64.format = Ieee.double from rfl, order_fi h h]
  have := (compare_int_eq n n).2 rfl
  rw [this]; rfl
set_option maxRecDepth 100000 in
set_option maxHeartbeats 8000000 in
theorem tallyCounts_body (ao bo : Option Addr) (n c m d : Nat) (K E : Nat → Int) (S : Nat → ByteArray) (w : World) (hn : n ≤ 4503599627370496) (hm : m ≤ 4503599627370496) (hA : ActsAt w ao n K) (hT : ToldAt w bo m E S) :
    Calls Try.prog 3 #[.slice ao n c, .slice bo m d] w fun r w' => r = .returned (.bool true) ∧ Below w.heap.size w w' := by
  have HO := Lib.hid (of_any ao bo n c m d K E S w hn (by omega) hA hT)
  have HA := Lib.hid hA
  have HT := Lib.hid hT
  clear hA hT
  go_enter Try.func3, Try.ntmps3
  go_upto_region 1 with fail
  go_cut [5] from 12 (fun s5 wx => s5 = .int .i64 ((min n m : Nat) : Int) ∧ w = wx)
  case first =>
    go_wp2
    all_goals
      go_meet
      refine ⟨?_, rfl⟩
      congr 1
      omega
  case rest =>
  obtain ⟨rfl, rfl⟩ := hcut
  obtain ⟨N, hN⟩ : ∃ N, min n m = N := ⟨_, rfl⟩
  rw [hN] at HO ⊢
  have hNn : N ≤ n := by omega
  have hNm : N ≤ m := by omega
  clear hN
  go_wp2_with fail
  refine HO.out.mono ?_
  rintro e w1 ⟨rfl, b1⟩
  obtain ⟨w2, HW2, HT2, b2⟩ := stored_tally w1 (tl K E S N)
  have B2 := b1.trans (b2.mono b1.size)
  have G := Lib.hid (show Below w1.heap.size w1 w2 from b2)
  go_upto_region 3 with (refine wpList_store_row rfl _ _ _ rfl w1.heap.size (tcells (tl K E S N)) rfl rfl 28 _ (heap_alloc_new _ _) (by rw [tcells_size]; kernel_rfl) (by rw [tcells_size]; rfl) (tcells_one _) ?_)
  rw [HW2.out]
  clear HW2 b2
  have hg1 := b1.size
  generalize w1.heap.size = g at HT2 hg1 ⊢
  have HTT := Lib.hid HT2
  clear HT2
  go_wp2
  go_loopw [7] (fun x wi => ∃ i : Nat, x = .int .i64 i ∧ i ≤ 24 ∧ ∃ q, wi = w2.drewN q) (fun x _ => 24 - (intOf x).toNat)
  case atStart => exact ⟨0, rfl, by omega, 0, rfl⟩
  case round =>
    obtain ⟨i, rfl, hi, q, rfl⟩ := hrel
    by_cases hlt : i < 24
    · have hli : (i : Int) < 24 := by omega
      have c0 := (HTT.out.drewN q).ca i hlt
      have HK := Lib.hid (fun w3 (h : Below w.heap.size w w3) => kinds_any ao n c N i K w3 hn hNn hlt (HA.out.below h))
      have hv : (tl K E S N).a i = cnt (fun j => decide (kindI (K j) = (i : Int))) N := rfl
      rw [hv] at c0
      clear hv
      generalize cnt (fun j => decide (kindI (K j) = (i : Int))) N = v at c0 HK
      go_wp2
      refine wp_region_lin (S := (fun w' => w'.cell? ⟨g, i, none⟩ = some (.int .i64 v) ∧ ∃ q', w' = w2.drewN q')) [(0, true), (1, true), (2, true), (3, true), (4, true), (5, true), (6, true), (7, false), (8, true)] (by kernel_rfl) (by kernel_rfl) rfl (by kernel_rfl) ?_ (fun hHeld => ?_)
      · (try dsimp only); exact ⟨c0, q + 1, rfl⟩
      (refine wpL_calm (o := { dst := some 24, op := Go.Op.move (Go.Operand.tmp 7), type := 3, pos := "law.go:23", after := #[], guard := none }) (v := ?_) rfl (Or.inl ⟨by rfl, ?_⟩) ?_; rotate_left; (focus (intro w hSw; (try dsimp only at hSw); go_simp; (try (with_reducible rfl)); done)); try simp only [Act.put, List.setIfInBounds_toArray, List.set_cons_zero, List.set_cons_succ])
      (refine wpL_calm (o := { dst := some 25, op := Go.Op.fieldAddr 28 (Go.Operand.tmp 6) 0, type := 0, pos := "law.go:23", after := #[], guard := none }) (v := ?_) rfl (Or.inl ⟨by rfl, ?_⟩) ?_; rotate_left; (focus (intro w hSw; (try dsimp only at hSw); go_simp; (try (with_reducible rfl)); done)); try simp only [Act.put, List.setIfInBounds_toArray, List.set_cons_zero, List.set_cons_succ])
      (refine wpL_calm (o := { dst := some 26, op := Go.Op.indexAddr 24 (Go.Operand.tmp 25) (Go.Operand.tmp 24), type := 0, pos := "law.go:23", after := #[{ on := 1, ground := Go.Ground.data }, { on := 0, ground := Go.Ground.data }], guard := none }) (v := ?_) rfl (Or.inl ⟨by rfl, ?_⟩) ?_; rotate_left; (focus (intro w hSw; (try dsimp only at hSw); go_simp; (try (with_reducible rfl)); done)); try simp only [Act.put, List.setIfInBounds_toArray, List.set_cons_zero, List.set_cons_succ])
      (refine wpL_calm (o := { dst := some 27, op := Go.Op.load 3 (Go.Operand.tmp 26), type := 3, pos := "law.go:23", after := #[{ on := 2, ground := Go.Ground.data }], guard := none }) (v := ?_) rfl (Or.inl ⟨by rfl, ?_⟩) ?_; rotate_left; (focus (intro w hSw; (try dsimp only at hSw); go_simp; (try (with_reducible rfl)); done)); try simp only [Act.put, List.setIfInBounds_toArray, List.set_cons_zero, List.set_cons_succ])
      (refine wpL_calm (o := { dst := some 28, op := Go.Op.move (Go.Operand.tmp 0), type := 22, pos := "law.go:23", after := #[], guard := none }) (v := ?_) rfl (Or.inl ⟨by rfl, ?_⟩) ?_; rotate_left; (focus (intro w hSw; (try dsimp only at hSw); go_simp; (try (with_reducible rfl)); done)); try simp only [Act.put, List.setIfInBounds_toArray, List.set_cons_zero, List.set_cons_succ])
      (refine wpL_calm (o := { dst := some 29, op := Go.Op.move (Go.Operand.tmp 5), type := 3, pos := "law.go:23", after := #[], guard := none }) (v := ?_) rfl (Or.inl ⟨by rfl, ?_⟩) ?_; rotate_left; (focus (intro w hSw; (try dsimp only at hSw); go_simp; (try (with_reducible rfl)); done)); try simp only [Act.put, List.setIfInBounds_toArray, List.set_cons_zero, List.set_cons_succ])
      (refine wpL_calm (o := { dst := some 30, op := Go.Op.move (Go.Operand.tmp 7), type := 3, pos := "law.go:23", after := #[], guard := none }) (v := ?_) rfl (Or.inl ⟨by rfl, ?_⟩) ?_; rotate_left; (focus (intro w hSw; (try dsimp only at hSw); go_simp; (try (with_reducible rfl)); done)); try simp only [Act.put, List.setIfInBounds_toArray, List.set_cons_zero, List.set_cons_succ])
      refine wpL_loud1 (o := { dst := some 31, op := Go.Op.call { callee := Go.Callee.value (Go.Operand.func 8), args := #[Go.Operand.tmp 28, Go.Operand.tmp 29, Go.Operand.tmp 30], argTypes := #[22, 3, 3] }, type := 3, pos := "law.go:23", after := #[{ on := 4, ground := Go.Ground.data }, { on := 5, ground := Go.Ground.data }, { on := 6, ground := Go.Ground.data }], guard := none }) rfl (fun K hK => ?_)
      go_simp; go_at_call 8; ((with_reducible refine (HK.out _ (below_drewN B2 _)).mono ?_); rintro e w' ⟨rfl, rfl⟩)
      try go_wp2_with fail
      refine hK.out _ _ ?_ (fun hHeld => ?_)
      · (try dsimp only); exact hHeld
      clear hK K
      try simp only [Act.put, List.setIfInBounds_toArray, List.set_cons_zero, List.set_cons_succ]
      (refine wpL_calm (o := { dst := some 32, op := Go.Op.binOp Go.BinOp.neq 3 (Go.Operand.tmp 27) (Go.Operand.tmp 31) 3, type := 4, pos := "law.go:23", after := #[{ on := 3, ground := Go.Ground.data }, { on := 7, ground := Go.Ground.data }], guard := none }) (v := ?_) rfl (Or.inl ⟨by rfl, ?_⟩) ?_; rotate_left; (focus (intro w hSw; (try dsimp only at hSw); go_simp; (try (with_reducible rfl)); done)); try simp only [Act.put, List.setIfInBounds_toArray, List.set_cons_zero, List.set_cons_succ])
      refine wpL_nil ?_
      refine NoPanic.normal ?_
      go_wp2
      go_roundw
      case rel => exact ⟨i + 1, by go_num, by omega, _, rfl⟩
      case measure => simp [intOf]; omega
    · obtain rfl : i = 24 := by omega
      rw [show ((24 : Nat) : Int) = 24 from rfl]
      go_wp2
      go_loopw [8] (fun x wi => ∃ i : Nat, x = .int .i64 i ∧ i ≤ 32 ∧ ∃ q, wi = w2.drewN q) (fun x _ => 32 - (intOf x).toNat)
      case atStart => exact ⟨0, rfl, by omega, q, rfl⟩
      case round =>
        obtain ⟨i, rfl, hi, q, rfl⟩ := hrel
        by_cases hlt : i < 32
        · have hli : (i : Int) < 32 := by omega
          have c0 := (HTT.out.drewN q).ce i hlt
          have HK := Lib.hid (fun w3 (h : Below w.heap.size w w3) => errors_any bo m d N i E S w3 hm hNm hlt (HT.out.below h))
          have hv : (tl K E S N).e i = cnt (fun j => decide (errI (E j) = (i : Int))) N := rfl
          rw [hv] at c0
          clear hv
          generalize cnt (fun j => decide (errI (E j) = (i : Int))) N = v at c0 HK
          go_wp2
          refine wp_region_lin (S := (fun w' => w'.cell? ⟨g, 24 + i, none⟩ = some (.int .i64 v) ∧ ∃ q', w' = w2.drewN q')) [(0, true), (1, true), (2, true), (3, true), (4, true), (5, true), (6, true), (7, false), (8, true)] (by kernel_rfl) (by kernel_rfl) rfl (by kernel_rfl) ?_ (fun hHeld => ?_)
          · (try dsimp only); exact ⟨c0, q + 1, rfl⟩
          (refine wpL_calm (o := { dst := some 37, op := Go.Op.move (Go.Operand.tmp 8), type := 3, pos := "law.go:28", after := #[], guard := none }) (v := ?_) rfl (Or.inl ⟨by rfl, ?_⟩) ?_; rotate_left; (focus (intro w hSw; (try dsimp only at hSw); go_simp; (try (with_reducible rfl)); done)); try simp only [Act.put, List.setIfInBounds_toArray, List.set_cons_zero, List.set_cons_succ])
          (refine wpL_calm (o := { dst := some 38, op := Go.Op.fieldAddr 28 (Go.Operand.tmp 6) 1, type := 0, pos := "law.go:28", after := #[], guard := none }) (v := ?_) rfl (Or.inl ⟨by rfl, ?_⟩) ?_; rotate_left; (focus (intro w hSw; (try dsimp only at hSw); go_simp; (try (with_reducible rfl)); done)); try simp only [Act.put, List.setIfInBounds_toArray, List.set_cons_zero, List.set_cons_succ])
          (refine wpL_calm (o := { dst := some 39, op := Go.Op.indexAddr 25 (Go.Operand.tmp 38) (Go.Operand.tmp 37), type := 0, pos := "law.go:28", after := #[{ on := 1, ground := Go.Ground.data }, { on := 0, ground := Go.Ground.data }], guard := none }) (v := ?_) rfl (Or.inl ⟨by rfl, ?_⟩) ?_; rotate_left; (focus (intro w hSw; (try dsimp only at hSw); go_simp; (try (with_reducible rfl)); done)); try simp only [Act.put, List.setIfInBounds_toArray, List.set_cons_zero, List.set_cons_succ])
          (refine wpL_calm (o := { dst := some 40, op := Go.Op.load 3 (Go.Operand.tmp 39), type := 3, pos := "law.go:28", after := #[{ on := 2, ground := Go.Ground.data }], guard := none }) (v := ?_) rfl (Or.inl ⟨by rfl, ?_⟩) ?_; rotate_left; (focus (intro w hSw; (try dsimp only at hSw); go_simp; (try (with_reducible rfl)); done)); try simp only [Act.put, List.setIfInBounds_toArray, List.set_cons_zero, List.set_cons_succ])
          (refine wpL_calm (o := { dst := some 41, op := Go.Op.move (Go.Operand.tmp 1), type := 23, pos := "law.go:28", after := #[], guard := none }) (v := ?_) rfl (Or.inl ⟨by rfl, ?_⟩) ?_; rotate_left; (focus (intro w hSw; (try dsimp only at hSw); go_simp; (try (with_reducible rfl)); done)); try simp only [Act.put, List.setIfInBounds_toArray, List.set_cons_zero, List.set_cons_succ])
          (refine wpL_calm (o := { dst := some 42, op := Go.Op.move (Go.Operand.tmp 5), type := 3, pos := "law.go:28", after := #[], guard := none }) (v := ?_) rfl (Or.inl ⟨by rfl, ?_⟩) ?_; rotate_left; (focus (intro w hSw; (try dsimp only at hSw); go_simp; (try (with_reducible rfl)); done)); try simp only [Act.put, List.setIfInBounds_toArray, List.set_cons_zero, List.set_cons_succ])
          (refine wpL_calm (o := { dst := some 43, op := Go.Op.move (Go.Operand.tmp 8), type := 3, pos := "law.go:28", after := #[], guard := none }) (v := ?_) rfl (Or.inl ⟨by rfl, ?_⟩) ?_; rotate_left; (focus (intro w hSw; (try dsimp only at hSw); go_simp; (try (with_reducible rfl)); done)); try simp only [Act.put, List.setIfInBounds_toArray, List.set_cons_zero, List.set_cons_succ])
          refine wpL_loud1 (o := { dst := some 44, op := Go.Op.call { callee := Go.Callee.value (Go.Operand.func 9), args := #[Go.Operand.tmp 41, Go.Operand.tmp 42, Go.Operand.tmp 43], argTypes := #[23, 3, 3] }, type := 3, pos := "law.go:28", after := #[{ on := 4, ground := Go.Ground.data }, { on := 5, ground := Go.Ground.data }, { on := 6, ground := Go.Ground.data }], guard := none }) rfl (fun K hK => ?_)
          go_simp; go_at_call 9; ((with_reducible refine (HK.out _ (below_drewN B2 _)).mono ?_); rintro e w' ⟨rfl, rfl⟩)
          try go_wp2_with fail
          refine hK.out _ _ ?_ (fun hHeld => ?_)
          · (try dsimp only); exact hHeld
          clear hK K
          try simp only [Act.put, List.setIfInBounds_toArray, List.set_cons_zero, List.set_cons_succ]
          (refine wpL_calm (o := { dst := some 45, op := Go.Op.binOp Go.BinOp.neq 3 (Go.Operand.tmp 40) (Go.Operand.tmp 44) 3, type := 4, pos := "law.go:28", after := #[{ on := 3, ground := Go.Ground.data }, { on := 7, ground := Go.Ground.data }], guard := none }) (v := ?_) rfl (Or.inl ⟨by rfl, ?_⟩) ?_; rotate_left; (focus (intro w hSw; (try dsimp only at hSw); go_simp; (try (with_reducible rfl)); done)); try simp only [Act.put, List.setIfInBounds_toArray, List.set_cons_zero, List.set_cons_succ])
          refine wpL_nil ?_
          refine NoPanic.normal ?_
          go_wp2
          go_roundw
          case rel => exact ⟨i + 1, by go_num, by omega, _, rfl⟩
          case measure => simp [intOf]; omega
        · obtain rfl : i = 32 := by omega
          have B3 := below_drewN B2 q
          have HR := Lib.hid (reads_any ao bo n c m d N K E S (w2.drewN q) hn hNn hNm (by omega) (HA.out.below B3) (HT.out.below B3))
          have T3 := HTT.out.drewN q
          have hsz3 : g < (w2.drewN q).heap.size := T3.lt
          have hx := bx_bd qx qx_bd K E N
          have hy := bx_bd qy qy_bd K E N
          have ox := fi_eq_self (bx_ qx K E N) (by omega)
          have oy := fi_eq_self (bx_ qy K E N) (by omega)
          have fx : floatOfInt .f64 (bx_ qx K E N) = fi (bx_ qx K E N) := rfl
          have fy : floatOfInt .f64 (bx_ qy K E N) = fi (bx_ qy K E N) := rfl
          have HM := Lib.hid (fun w => tl_many K E S N (by omega) w)
          clear hx hy
          generalize w2.drewN q = w3 at *
          go_wp2_with fail
          refine HR.out.mono ?_
          rintro e w4 ⟨rfl, rfl⟩
          go_wp2_with fail
          refine (awake35 _).mono ?_
          rintro e w5 ⟨rfl, b5⟩
          have T5 := T3.below b5 hsz3
          have B5 := B3.trans (b5.mono B3.size)
          have c2 : w5.cell? ⟨g, 56, none⟩ = some (.int .i64 (bsum K E S N)) := T5.cb
          have c3 : w5.cell? ⟨g, 57, none⟩ = some (.complex .f64 (fi (bx_ qx K E N)) (fi (bx_ qy K E N))) := T5.cz
          have ht : w5.heap[g]? = some (.cells (tcells (tl K E S N)) 28 (0, 0)) := T5
          clear b5 T3 T5 B3
          generalize bsum K E S N = vb at *
          go_wp2_with (first
            | (refine wpList_load_row_g rfl _ _ rfl g rfl 28 (tcells (tl K E S N)) (0, 0) _ ht Try.underlying28 rfl (by rw [tcells_size]; kernel_rfl) ?_)
            | (go_at_call 12; refine (HM.out _).mono ?_; rintro e w6 ⟨rfl, b6⟩))
          go_ret
          exact ⟨rfl, B5.trans (b6.mono B5.size)⟩
theorem tallyCounts_walk {H : Type} {enc : TypeId × Value → H} (v : Value) (d : DataW H) (p : List MemPlace) (u : Value) (e : DataW H) (q : List MemPlace) (w : World)
    (hok : ∃ a len cap, v = .slice a len cap) (h : DataW.Trod enc Try.prog w 0 (fun _ => true) true 22 v d p) (hok2 : ∃ a len cap, u = .slice a len cap) (h2 : DataW.Trod enc Try.prog w 0 (fun _ => true) true 23 u e q)
    (z : ∀ es sp, d = .slice es sp → (es.length + sp.length) * Try.prog.bytesOf 57 ≤ reachBytes) (z2 : ∀ es sp, e = .slice es sp → (es.length + sp.length) * Try.prog.bytesOf 60 ≤ reachBytes) :
    Calls Try.prog 3 #[v, u] w fun e w' => e = .returned (.bool true) ∧ Below w.heap.size w w' := by
  obtain ⟨ao, n, c, K, rfl, hn, _, hA⟩ := open_acts hok h z
  obtain ⟨bo, m, d', E, S, rfl, hm, _, hT⟩ := open_told hok2 h2 z2
  exact tallyCounts_body ao bo n c m d' K E S w hn hm hA hT
end Go.Proofs.Ytnbmpackjgffaaa
