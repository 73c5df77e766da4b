/- The law ShaWorks. -/
import Derived.Test.YtndhegdhkoileaaDoorSiE
import Derived.Test.YtndhegdhkoileaaDoorSiH
import Derived.Test.YtndhegdhkoileaaDoorShZ
namespace Go.Proofs.YtndhegdhkoileaaDoor
open Go.RowKit Go.Deep Go.ChangeShapes Go.WideShapes
set_option linter.unusedVariables false
set_option linter.unusedSimpArgs false
theorem vL_at (v : V8) (i : Nat) (hi : i < 8) : (vL v).toArray[i]? = some (.int .u32 ((v.at i).toNat : Int)) := by
  rcases (show i = 0 ∨ i = 1 ∨ i = 2 ∨ i = 3 ∨ i = 4 ∨ i = 5 ∨ i = 6 ∨ i = 7 by omega) with rfl | rfl | rfl | rfl | rfl | rfl | rfl | rfl <;> rfl
/-- The first k of eight words. -/
def vT (v : V8) (k : Nat) : List Nat := (List.range k).map fun i => (v.at i).toNat
theorem vT_snoc (v : V8) (k : Nat) : vT v (k + 1) = vT v k ++ [(v.at k).toNat] := by unfold vT; rw [List.range_succ, List.map_append]; rfl
theorem vT_8 (v : V8) : vT v 8 = vN v := rfl
theorem eql_z8 : ∀ w, (binOp .eql 29 (.agg z8) (.agg z8)).run Tryd.prog w = .ok (.bool true) w := fun w => by kernel_rfl
theorem stored_x8 (w : World) (X : Array Value) : ∃ w3, Hid ((w.alloc (.cells z8 29)).setRow w.heap.size X = w3) ∧ w3.heap[w.heap.size]? = some (.cells X 29 (0, 0)) ∧ Below w.heap.size w w3 :=
  ⟨_, Lib.hid rfl, setRow_heap _ _ _ X 29 (0, 0) (heap_alloc_new _ _), below_setRow ((Below.refl _ _).alloc (Nat.le_refl _) _) (Nat.le_refl _) _⟩
theorem loadedA8 {w : World} {g : Nat} {X : Array Value} (h : w.heap[g]? = some (.cells X 29 (0, 0))) (hs : X.size = 8) : LoadedA Tryd.prog 29 w g X := ⟨_, _, _, _, h, Tryd.underlying29, by rw [hs]; kernel_rfl⟩
set_option maxRecDepth 100000 in
set_option maxHeartbeats 1000000 in
theorem works_bad (V : V8) (s : ByteArray) (w : World) (hG : Gl w) (hs : s.size ≠ 64) : Calls Tryd.prog 4 #[.agg (vL V).toArray, .string s] w fun e w' => e = .returned (.bool true) ∧ Below w.heap.size w w' := by
  have hz := zero_z8
  have hbz := build_z8
  have hez := eql_z8
  have ht : ((s.size : Int) != 64) = true := by rw [bne_iff_ne]; omega
  have HWK := Lib.hid (fun w => work_bad V s w hs)
  have hX := vL_size V
  generalize (vL V).toArray = VA at *
  obtain ⟨w0, HW0, hV, B0⟩ : ∃ w0, Hid (w.alloc (.cells VA 29) = w0) ∧ w0.heap[w.heap.size]? = some (.cells VA 29 (0, 0)) ∧ Below w.heap.size w w0 := ⟨_, Lib.hid rfl, heap_alloc_new _ _, (Below.refl _ _).alloc (Nat.le_refl _) _⟩
  have hL := loadedA8 hV hX
  go_enter Tryd.func4, Tryd.ntmps4
  go_upto_region 1 with fail
  rw [HW0.out]
  clear HW0
  go_wp2_with ((with_reducible refine wpList_load_arr_i (g := w.heap.size) (cs := VA) 29 _ rfl ?_ ?_ ?_); exact ⟨rfl, rfl⟩; assumption)
  refine (HWK.out _).mono ?_
  rintro e w1 ⟨rfl, b1⟩
  have B1 := B0.trans (b1.mono B0.size)
  obtain ⟨w2, HW2, hR2, b2⟩ := stored_x8 w1 z8
  have B2 := B1.trans (b2.mono B1.size)
  have G2 := hG.below B2
  clear hL hV HWK b1 b2 B0
  go_upto_region 2 with (refine wpList_store_row rfl _ _ _ rfl w1.heap.size z8 rfl rfl 29 _ (heap_alloc_new _ _) (by kernel_rfl) rfl z8_one ?_)
  rw [HW2.out]
  clear HW2
  have hg1 : w1.heap.size < w2.heap.size := (Array.getElem?_eq_some_iff.1 hR2).1
  go_wp2_with fail
  refine (awake_any _ G2).mono ?_
  rintro e w3 ⟨rfl, b3⟩
  have hL3 := loadedA8 ((b3.block _ hg1).trans hR2) z8_size
  have B3 := B2.trans (b3.mono B2.size)
  clear hR2 b3
  go_wp2_with ((with_reducible refine wpList_load_arr_i (g := w1.heap.size) (cs := z8) 29 _ rfl ?_ ?_ ?_); exact ⟨rfl, rfl⟩; assumption)
  go_ret
  exact ⟨rfl, B3⟩
set_option maxRecDepth 100000 in
set_option maxHeartbeats 2000000 in
theorem works_ok (V : V8) (s : ByteArray) (w : World) (hG : Gl w) (hs : s.size = 64) : Calls Tryd.prog 4 #[.agg (vL V).toArray, .string s] w fun e w' => e = .returned (.bool true) ∧ Below w.heap.size w w' := by
  obtain ⟨i0, hi, hz0, hz1, hz2⟩ := info_parts' info_i64'
  have hz := zero_z8
  have ht : ((s.size : Int) != 64) = false := by rw [bne_eq_false_iff_eq]; omega
  have hl : s.data.toList.length = 64 := by rw [← Lib.size_eq]; exact hs
  have HWK := Lib.hid (fun w h => work_ok V s w h hs)
  have HBL := Lib.hid (fun gh ch gk ck w h1 h2 h3 => block_any V s s.data.toList rfl hl gh ch gk ck w h1 h2 h3)
  have HC := Lib.hid (fun w => constants_any w)
  generalize hBK : blk V s.data.toList = BK at *
  clear hBK hl
  have hX := vL_size V
  have hXB := vL_size BK
  have HAT := Lib.hid (vL_at V)
  have HAB := Lib.hid (vL_at BK)
  have HOB := Lib.hid (vL_one BK)
  have HTS := Lib.hid (vT_snoc V)
  have HT8 := Lib.hid (vT_8 V)
  have HT0 : Hid (vT V 0 = []) := Lib.hid rfl
  generalize (vL V).toArray = VA at *
  generalize (vL BK).toArray = XA at *
  obtain ⟨w0, HW0, hV, B0⟩ : ∃ w0, Hid (w.alloc (.cells VA 29) = w0) ∧ w0.heap[w.heap.size]? = some (.cells VA 29 (0, 0)) ∧ Below w.heap.size w w0 := ⟨_, Lib.hid rfl, heap_alloc_new _ _, (Below.refl _ _).alloc (Nat.le_refl _) _⟩
  have hL := loadedA8 hV hX
  have G0 := hG.below B0
  go_enter Tryd.func4, Tryd.ntmps4
  go_upto_region 1 with fail
  rw [HW0.out]
  clear HW0
  go_wp2_with ((with_reducible refine wpList_load_arr_i (g := w.heap.size) (cs := VA) 29 _ rfl ?_ ?_ ?_); exact ⟨rfl, rfl⟩; assumption)
  refine (HWK.out _ G0).mono ?_
  rintro e w1 ⟨rfl, b1⟩
  have hg0 : w.heap.size < w0.heap.size := (Array.getElem?_eq_some_iff.1 hV).1
  have hV1 := (b1.block _ hg0).trans hV
  have B1 := B0.trans (b1.mono B0.size)
  obtain ⟨w2, HW2, hR2, b2⟩ := stored_x8 w1 XA
  have hg01 : w.heap.size < w1.heap.size := Nat.lt_of_lt_of_le hg0 b1.size
  have hV2 := (b2.block _ hg01).trans hV1
  have B2 := B1.trans (b2.mono B1.size)
  have G2 := hG.below B2
  have hX8 := hXB
  clear hL hV HWK b1 b2 B0 hV1 B1 G0
  go_upto_region 2 with (refine wpList_store_row rfl _ _ _ rfl w1.heap.size XA rfl rfl 29 _ (heap_alloc_new _ _) (by rw [hX8]; kernel_rfl) (by rw [hX8, z8_size]) HOB.out ?_)
  rw [HW2.out]
  clear HW2 hXB hX8 hX
  have hg1 : w1.heap.size < w2.heap.size := (Array.getElem?_eq_some_iff.1 hR2).1
  have HG2 := Lib.hid G2
  have HB2 := Lib.hid B2
  have HV2 := Lib.hid hV2
  have HR2 := Lib.hid hR2
  have hsz2 := B2.size
  clear G2 B2 hV2 hR2
  generalize hgv : w.heap.size = gv at *
  have HGV := Lib.hid hgv
  clear hgv
  generalize w1.heap.size = gx at *
  go_wp2_with fail
  go_loopw [7, 8] (fun r i wi => ∃ k : Nat, i = .int .i64 k ∧ k ≤ 8 ∧ Hid (wi.ownsRow w2.heap.size 3 1 r k (nv (vT V k))) ∧ Hid (Below w2.heap.size w2 wi)) (fun _ i _ => 8 - (intOf i).toNat)
  case atStart => exact ⟨0, rfl, by omega, Lib.hid (by rw [HT0.out]; exact World.ownsRow_nil _ _ _ _), Lib.hid (Below.refl _ _)⟩
  case round =>
    obtain ⟨k, rfl, hk, HO, HB⟩ := hrel
    have HSZ := HB.out.size
    by_cases hlt : k < 8
    · as_aux_lemma =>
      have hli : (k : Int) < 8 := by omega
      obtain ⟨a, c, rfl, hc1, hc2⟩ := own_sl HO.out
      have HS1 := Lib.hid (HTS.out k)
      have hc0 := (HB.out.cell (p := ⟨gv, k, none⟩) (by show gv < w2.heap.size; omega)).trans ((cell_of_row w2 gv k _ _ _ HV2.out).trans (HAT.out k hlt))
      have hx := i64_u32 (V.at k)
      generalize V.at k = x at *
      go_wp2_with (at_builtin; refine wpList_append_own _ rfl _ _ 33 rfl w2.heap.size 3 i0 (.int .i64 0) 1 8 Tryd.underlying33 hi hz0 hz1 hz2 rfl (by decide) _ _ _ rfl (HO.out.alloc _) ⟨wr.heap.size, 0, none⟩ 1 1 [.int .i64 (x.toNat : Int)] rfl rfl (one_cell_at wr _ _) (by intro u hu; simp at hu; subst hu; rfl) (by unfold maxLen; omega) (by omega) (by simp; omega) ?_; intro v' w3 O3 G3 _; obtain ⟨a3, c3, rfl, _, _⟩ := own_sl O3)
      have B3 : Below w2.heap.size w2 w3 := (HB.out.alloc HSZ _).grown G3 (by simp; omega) (fun j e => (HO.out.lt j e).1)
      have HO3 := Lib.hid O3
      clear O3
      go_wp2_with fail
      go_roundw
      case rel => exact ⟨k + 1, by go_num, by omega, Lib.hid (by rw [HS1.out, nv_app]; exact HO3.out), Lib.hid B3⟩
      case measure => simp [intOf]; omega
    · as_aux_lemma =>
      obtain rfl : k = 8 := by omega
      rw [show ((8 : Nat) : Int) = 8 from rfl]
      obtain ⟨gh, ch, rfl, hch, hbh, hgh, hrh⟩ := own_rowI HO.out (by omega)
      rw [HT8.out] at hrh
      go_wp2_with fail
      refine (HC.out _).mono ?_
      rintro e w3 ⟨rk, rfl, hK3, b3⟩
      obtain ⟨gk, ck, rfl, hck, hbk, hgk, hrk⟩ := own_rowI hK3 (by omega)
      have K3 : NAt w3 gk kN := ⟨by with_unfolding_all exact hrk, hgk⟩
      have H3 : NAt w3 gh (vN V) := NAt.below (w := wr) ⟨hrh, hgh⟩ b3
      have B3 := Lib.hid (HB.out.trans (b3.mono HSZ))
      have hs3 : w2.heap.size ≤ w3.heap.size := Nat.le_trans HSZ b3.size
      clear hK3 hrk hrh b3 HO HB
      go_wp2_with fail
      refine (HBL.out gh ch gk ck _ H3.1 H3.2 K3).mono ?_
      rintro e w4 ⟨r4, rfl, hO4, b4⟩
      obtain ⟨g4, c4, rfl, hc4, hbg4, hg4, hr4⟩ := own_rowI hO4 (by omega)
      have V4 := Lib.hid (Vat.of hr4 hg4)
      have B4 := Lib.hid (B3.out.trans (b4.mono hs3))
      have hs4 : w2.heap.size ≤ w4.heap.size := Nat.le_trans hs3 b4.size
      have HR4 := Lib.hid ((B4.out.block _ hg1).trans HR2.out)
      clear H3 K3 hO4 hr4 b4 B3
      go_wp2_with fail
      go_loopw [10] (fun i wi => ∃ k : Nat, i = .int .i64 k ∧ k ≤ 8 ∧ Hid (Below w4.heap.size w4 wi)) (fun i _ => 8 - (intOf i).toNat)
      case atStart => exact ⟨0, rfl, by omega, Lib.hid (Below.refl _ _)⟩
      case round =>
        obtain ⟨k, rfl, hk, HB⟩ := hrel
        by_cases hlt : k < 8
        · as_aux_lemma =>
          have hli : (k : Int) < 8 := by omega
          have hc0 := (HB.out.cell (p := ⟨gx, k, none⟩) (by show gx < w4.heap.size; omega)).trans ((cell_of_row w4 gx k _ _ _ HR4.out).trans (HAB.out k hlt))
          have hc1 := (V4.out.below HB.out).at k hlt
          have hx := i64_u32 (BK.at k)
          generalize BK.at k = x at *
          go_wp2_with fail
          refine wp_region_lin (S := (fun w' => w'.cell? ⟨gx, k, none⟩ = some (.int .u32 (x.toNat : Int)) ∧ w'.cell? ⟨g4, k, none⟩ = some (.int .i64 (x.toNat : Int)))) [(0, true), (1, true), (2, true), (3, true), (4, true), (5, true), (6, true), (7, true), (8, true)] (by kernel_rfl) (by kernel_rfl) rfl (by kernel_rfl) ?_ (fun hHeld => ?_)
          · (try dsimp only); exact ⟨hc0, hc1⟩
          (refine wpL_calm (o := { dst := some 49, op := Go.Op.move (Go.Operand.tmp 10), type := 3, pos := "law.go:35", after := #[], guard := none }) (v := ?_) rfl (Or.inl ⟨by rfl, ?_⟩) ?_; rotate_left; (focus (intro w hSw; (try dsimp only at hSw); go_simp; (try (with_reducible rfl)); done)); try simp only [Act.put, List.setIfInBounds_toArray, List.set_cons_zero, List.set_cons_succ])
          (refine wpL_calm (o := { dst := some 50, op := Go.Op.indexAddr 29 (Go.Operand.tmp 5) (Go.Operand.tmp 49), type := 0, pos := "law.go:35", after := #[{ on := 0, ground := Go.Ground.data }], guard := none }) (v := ?_) rfl (Or.inl ⟨by rfl, ?_⟩) ?_; rotate_left; (focus (intro w hSw; (try dsimp only at hSw); go_simp; (try (with_reducible rfl)); done)); try simp only [Act.put, List.setIfInBounds_toArray, List.set_cons_zero, List.set_cons_succ])
          (refine wpL_calm (o := { dst := some 51, op := Go.Op.load 28 (Go.Operand.tmp 50), type := 28, pos := "law.go:35", after := #[{ on := 1, ground := Go.Ground.data }], guard := none }) (v := ?_) rfl (Or.inl ⟨by rfl, ?_⟩) ?_; rotate_left; (focus (intro w hSw; (try dsimp only at hSw); go_simp; (try (with_reducible rfl)); done)); try simp only [Act.put, List.setIfInBounds_toArray, List.set_cons_zero, List.set_cons_succ])
          (refine wpL_calm (o := { dst := some 52, op := Go.Op.convert 28 3 (Go.Operand.tmp 51), type := 3, pos := "law.go:35", after := #[{ on := 2, ground := Go.Ground.data }], guard := none }) (v := ?_) rfl (Or.inl ⟨by rfl, ?_⟩) ?_; rotate_left; (focus (intro w hSw; (try dsimp only at hSw); go_simp; (try (with_reducible rfl)); done)); try simp only [Act.put, List.setIfInBounds_toArray, List.set_cons_zero, List.set_cons_succ])
          (refine wpL_calm (o := { dst := some 53, op := Go.Op.move (Go.Operand.tmp 9), type := 33, pos := "law.go:35", after := #[], guard := none }) (v := ?_) rfl (Or.inl ⟨by rfl, ?_⟩) ?_; rotate_left; (focus (intro w hSw; (try dsimp only at hSw); go_simp; (try (with_reducible rfl)); done)); try simp only [Act.put, List.setIfInBounds_toArray, List.set_cons_zero, List.set_cons_succ])
          (refine wpL_calm (o := { dst := some 54, op := Go.Op.move (Go.Operand.tmp 10), type := 3, pos := "law.go:35", after := #[], guard := none }) (v := ?_) rfl (Or.inl ⟨by rfl, ?_⟩) ?_; rotate_left; (focus (intro w hSw; (try dsimp only at hSw); go_simp; (try (with_reducible rfl)); done)); try simp only [Act.put, List.setIfInBounds_toArray, List.set_cons_zero, List.set_cons_succ])
          (refine wpL_calm (o := { dst := some 55, op := Go.Op.indexAddr 33 (Go.Operand.tmp 53) (Go.Operand.tmp 54), type := 0, pos := "law.go:35", after := #[{ on := 4, ground := Go.Ground.data }, { on := 5, ground := Go.Ground.data }], guard := none }) (v := ?_) rfl (Or.inl ⟨by rfl, ?_⟩) ?_; rotate_left; (focus (intro w hSw; (try dsimp only at hSw); go_simp; (try (with_reducible rfl)); done)); try simp only [Act.put, List.setIfInBounds_toArray, List.set_cons_zero, List.set_cons_succ])
          (refine wpL_calm (o := { dst := some 56, op := Go.Op.load 3 (Go.Operand.tmp 55), type := 3, pos := "law.go:35", after := #[{ on := 6, ground := Go.Ground.data }], guard := none }) (v := ?_) rfl (Or.inl ⟨by rfl, ?_⟩) ?_; rotate_left; (focus (intro w hSw; (try dsimp only at hSw); go_simp; (try (with_reducible rfl)); done)); try simp only [Act.put, List.setIfInBounds_toArray, List.set_cons_zero, List.set_cons_succ])
          (refine wpL_calm (o := { dst := some 57, op := Go.Op.binOp Go.BinOp.neq 3 (Go.Operand.tmp 52) (Go.Operand.tmp 56) 3, type := 4, pos := "law.go:35", after := #[{ on := 3, ground := Go.Ground.data }, { on := 7, ground := Go.Ground.data }], guard := none }) (v := ?_) rfl (Or.inl ⟨by rfl, ?_⟩) ?_; rotate_left; (focus (intro w hSw; (try dsimp only at hSw); go_simp; (try (with_reducible rfl)); done)); try simp only [Act.put, List.setIfInBounds_toArray, List.set_cons_zero, List.set_cons_succ])
          refine wpL_nil ?_
          refine NoPanic.normal ?_
          clear hHeld hc0 hc1
          go_wp2_with fail
          go_roundw
          case rel => exact ⟨k + 1, by go_num, by omega, Lib.hid HB.out.drew⟩
          case measure => simp [intOf]; omega
        · as_aux_lemma =>
          obtain rfl : k = 8 := by omega
          rw [show ((8 : Nat) : Int) = 8 from rfl]
          have B5 := B4.out.trans (HB.out.mono hs4)
          have B6 := HB2.out.trans (B5.mono (by omega))
          have G6 := HG2.out.below B5
          go_wp2_with fail
          refine (awake_any _ G6).mono ?_
          rintro e w7 ⟨rfl, b7⟩
          have B7 := B6.trans (b7.mono (by have := B5.size; omega))
          go_wp2_with fail
          go_ret
          exact ⟨rfl, by rw [HGV.out]; exact B7⟩
section
variable {H : Type} {enc : TypeId × Value → H}
theorem shaWorks_walk {r : Reach} {b0 : Nat} (v : Value) (d : DataW H) (p : List MemPlace) (s : ByteArray) (w : World) (hok : Value.okWide Tryd.prog w r b0 29 v) (h : DataW.Trod enc Tryd.prog w 0 (fun _ => true) true 29 v d p) (hs : s.size ≤ 140737488351232) (hG : Gl w) :
    Calls Tryd.prog 4 #[v, .string s] w fun e w' => e = .returned (.bool true) ∧ Below w.heap.size w w' := by
  obtain ⟨V, rfl⟩ := open_w8 hok h
  by_cases h64 : s.size = 64
  · exact works_ok V s w hG h64
  · exact works_bad V s w hG h64
end
end Go.Proofs.YtndhegdhkoileaaDoor
