/- Contracts (cellaret): sha.Hex. -/
import Derived.Test.YtndhegdhkoileaaDoorShI
import Derived.Laws.AppendOwn
import Derived.Laws.BitsAllLaws
namespace Go.Proofs.YtndhegdhkoileaaDoor
open Go.RowKit Go.Deep
set_option linter.unusedVariables false
set_option linter.unusedSimpArgs false
def hxl : List UInt8 := [48, 49, 50, 51, 52, 53, 54, 55, 56, 57, 97, 98, 99, 100, 101, 102]
def hxd (n : Nat) : UInt8 := hxl.getD n 0
def hexL (l : List UInt8) : List UInt8 := l.flatMap fun b => [hxd (b.toNat / 16), hxd (b.toNat % 16)]
def hxs : ByteArray := ⟨#[48, 49, 50, 51, 52, 53, 54, 55, 56, 57, 97, 98, 99, 100, 101, 102]⟩
theorem hxs_at (n : Nat) (h : n < hxs.size) : hxs[n] = hxd n := by
  have h16 : n < 16 := h
  rcases (show n = 0 ∨ n = 1 ∨ n = 2 ∨ n = 3 ∨ n = 4 ∨ n = 5 ∨ n = 6 ∨ n = 7 ∨ n = 8 ∨ n = 9 ∨ n = 10 ∨ n = 11 ∨ n = 12 ∨ n = 13 ∨ n = 14 ∨ n = 15 by omega) with rfl | rfl | rfl | rfl | rfl | rfl | rfl | rfl | rfl | rfl | rfl | rfl | rfl | rfl | rfl | rfl <;> rfl
theorem hx_run (n : Nat) (h : n < 16) (k : IntKind) (w : World) : (Instr.index 9 (.string hxs) (.int k (n : Int))).run Tryd.prog w = .ok (.int .u8 ((hxd n).toNat : Int)) w := by
  have hs : hxs.size = 16 := rfl
  rw [run_index_string w 9 hxs k (n : Int) Tryd.underlying9, dif_pos ⟨by omega, by omega⟩]
  have : hxs[(n : Int).toNat]'(by omega) = hxd n := hxs_at n (by omega)
  rw [this]
theorem hx_hi (b : UInt8) (w : World) : (Instr.index 9 (.string ⟨#[48, 49, 50, 51, 52, 53, 54, 55, 56, 57, 97, 98, 99, 100, 101, 102]⟩) (.int .u8 ((b.toNat : Int) / 16))).run Tryd.prog w = .ok (.int .u8 ((hxd (b.toNat / 16)).toNat : Int)) w := by
  have hb := b.toNat_lt
  have := hx_run (b.toNat / 16) (by omega) .u8 w
  rw [show ((b.toNat / 16 : Nat) : Int) = (b.toNat : Int) / 16 from by omega] at this
  exact this
theorem hx_lo (b : UInt8) (w : World) : (Instr.index 9 (.string ⟨#[48, 49, 50, 51, 52, 53, 54, 55, 56, 57, 97, 98, 99, 100, 101, 102]⟩) (.int .u8 (bits BinOp.and IntKind.u8 (b.toNat : Int) 15))).run Tryd.prog w = .ok (.int .u8 ((hxd (b.toNat % 16)).toNat : Int)) w := by
  have hb := b.toNat_lt
  have e : bits BinOp.and IntKind.u8 (b.toNat : Int) 15 = ((b.toNat % 16 : Nat) : Int) := by
    have := u8_and_nat b.toNat 15 (by omega) (by omega)
    rw [show ((15 : Nat) : Int) = 15 from rfl] at this
    rw [this, show (15 : Nat) = 2 ^ 4 - 1 from rfl, Nat.and_two_pow_sub_one_eq_mod]
  rw [e]
  exact hx_run (b.toNat % 16) (by omega) .u8 w
theorem hex_snoc (l : List UInt8) (k : Nat) (h : k < l.length) : hexL (l.take (k + 1)) = hexL (l.take k) ++ [hxd (l[k].toNat / 16), hxd (l[k].toNat % 16)] := by
  unfold hexL
  rw [List.take_succ_eq_append_getElem h, List.flatMap_append]
  simp
theorem hex_len (l : List UInt8) : (hexL l).length = 2 * l.length := by
  induction l with
  | nil => rfl
  | cons a l ih => unfold hexL at ih ⊢; rw [List.flatMap_cons, List.length_append, ih]; simp; omega
theorem index_dig (l : List UInt8) (hl : l.length = 32) (i : Nat) (hi : i < 32) (w : World) : (Instr.index 24 (.agg (digA l)) (.int .i64 (i : Int))).run Tryd.prog w = .ok (.int .u8 ((bAt l i).toNat : Int)) w := by
  have h1 : (bv l)[i]? = some (.int .u8 ((bAt l i).toNat : Int)) := by
    unfold bv bAt
    rw [List.getElem?_map, List.getElem?_eq_getElem (by omega)]
    rfl
  have px : ∀ w, (part 5 (digA l) (i * 1)).run Tryd.prog w = .ok (.int .u8 ((bAt l i).toNat : Int)) w := fun w => by
    simp [part, isAgg, run_underlying Tryd.underlying5, digA, h1]
  have h2 : (0 : Int) ≤ (i : Int) ∧ (i : Int) < ((32 : Nat) : Int) := ⟨by omega, by omega⟩
  have hsz : ∀ w, (sizeOf 5).run Tryd.prog w = .ok 1 w := fun w => by kernel_rfl
  unfold Instr.index
  simp only [asIntOf, Sem.run_bind, Sem.run_pure, Result.andThen_ok, run_underlying Tryd.underlying24, if_pos h2, hsz, Int.toNat_natCast, px]
theorem info_parts' {P : Program} {t : TypeId} {z : Value} {n m : Nat} (h : (P.info? t).map (fun i => (i.zero, i.size, i.bytes)) = some (some z, n, m)) : ∃ i, P.info? t = some i ∧ i.zero = some z ∧ i.size = n ∧ i.bytes = m := by
  cases hq : P.info? t with
  | none => simp [hq] at h
  | some i => simp [hq] at h; exact ⟨i, rfl, h.1, h.2.1, h.2.2⟩
theorem own_alloc {w : World} {base n : Nat} {e : TypeId} {size : Nat} {v : Value} {xs : List Value} (h : w.ownsRow base e size v n xs) (o : Obj) : (w.alloc o).drew.ownsRow base e size v n xs :=
  h.kept (row := none) ⟨rfl, rfl, rfl, by simp, fun k hk _ => Below.heap_alloc w o k hk⟩ (by cases v.ownBlock <;> simp)
theorem two_cells (w : World) (t : TypeId) (a b : Value) : ∀ j u, [a, b][j]? = some u → (w.alloc (.cells #[a, b] t)).drew.cell? ((⟨w.heap.size, 0, none⟩ : Addr).add j) = some u := by
  intro j u hu
  have h : (w.alloc (.cells #[a, b] t)).drew.heap[w.heap.size]? = some (.cells #[a, b] t (0, 0)) := heap_alloc_new _ _
  rw [Addr.add_mid, Nat.zero_add, cell_of_row _ _ j _ _ _ h, ← Array.getElem?_toList]
  exact hu
set_option maxRecDepth 100000 in
set_option maxHeartbeats 2000000 in
theorem hex_any (l : List UInt8) (hl : l.length = 32) (w : World) : Calls Tryd.prog 22 #[.agg (digA l)] w fun e w' => e = .returned (.string ⟨(hexL l).toArray⟩) ∧ Below w.heap.size w w' := by
  obtain ⟨i0, hi, hz0, hz1, hz2⟩ := info_parts' info_u8'
  have hdz : (digA l).size = 32 := by unfold digA bv; simp [hl]
  obtain ⟨w0, HE, hD, B0⟩ : ∃ w0, Hid (w.alloc (.cells (digA l) 24) = w0) ∧ w0.heap[w.heap.size]? = some (.cells (digA l) 24 (0, 0)) ∧ Below w.heap.size w w0 := ⟨_, Lib.hid rfl, heap_alloc_new _ _, (Below.refl _ _).alloc (Nat.le_refl _) _⟩
  obtain ⟨w1, hmk, O1, g1⟩ := run_make_own (P := Tryd.prog) w0 w0.heap.size 49 5 i0 (.int .u8 0) 1 Tryd.underlying49 hi hz0 hz1 .i64 .i64 64 (by rw [hz2]; omega) (by unfold maxLen; omega) (Nat.le_refl _)
  rw [show ((64 : Nat) : Int) = 64 from rfl] at hmk
  have HID := Lib.hid (index_dig l hl)
  have hx1 := hx_hi
  have hx2 := hx_lo
  have hlt0 : w.heap.size < w0.heap.size := (Array.getElem?_eq_some_iff.1 hD).1
  have hD1 : w1.heap[w.heap.size]? = some (.cells (digA l) 24 (0, 0)) := (g1.block _ hlt0 (fun e => by cases e)).trans hD
  have B1 : Below w0.heap.size w0 w1 := (Below.refl _ _).grown g1 (Nat.le_refl _) (fun k e => by cases e)
  clear hD
  go_enter Tryd.func22, Tryd.ntmps22
  go_upto_region 1 with fail
  rw [HE.out]
  clear HE
  go_wp2_with (refine wpList_load_row rfl _ _ rfl w.heap.size rfl 24 (digA l) (0, 0) _ hD1 Tryd.underlying24 rfl (by rw [hdz]; kernel_rfl) ?_)
  clear hmk hD1 hdz
  generalize digA l = D at HID
  have hlb := Lib.hid B0
  clear B0
  generalize hgb : w0.heap.size = gb at *
  have HGB := Lib.hid hgb
  clear hgb
  go_loopw [3, 8] (fun v x wi => ∃ k : Nat, x = .int .i64 k ∧ k ≤ 32 ∧ Hid (wi.ownsRow gb 5 1 v (hexL (l.take k)).length (bv (hexL (l.take k)))) ∧ gb ≤ wi.heap.size ∧ Hid (Below gb w0 wi)) (fun _ x _ => 32 - (intOf x).toNat)
  case atStart => exact ⟨0, rfl, by omega, Lib.hid (by simpa [hexL, bv] using O1), by have := B1.size; rw [HGB.out] at this; exact this, Lib.hid B1⟩
  clear O1 B1 g1
  case round =>
    obtain ⟨k, rfl, hk, HO, hsb, hB⟩ := hrel
    by_cases hlt : k < 32
    · have hli : (k : Int) < 32 := by omega
      have ix := HID.out k hlt
      have hkl : k < l.length := by omega
      have HS := Lib.hid (hex_snoc l k hkl)
      have hbk : bAt l k = l[k] := by unfold bAt; rw [List.getElem?_eq_getElem hkl]; rfl
      rw [← hbk] at HS
      clear hbk
      generalize bAt l k = bb at ix HS
      have hln : (hexL (l.take k)).length ≤ 64 := by rw [hex_len, List.length_take]; omega
      generalize hexL (l.take k) = HK at HO HS hln
      have e1 := hx1 bb
      have e2 := hx2 bb
      generalize hxd (bb.toNat / 16) = c1 at e1 HS
      generalize hxd (bb.toNat % 16) = c2 at e2 HS
      clear hx1 hx2
      go_wp2_with fail
      refine wp_region_lin (S := (fun _ => True)) [(0, true), (1, true), (2, true), (3, true), (4, true), (5, true), (6, true), (7, false), (8, false), (9, true)] (by kernel_rfl) (by kernel_rfl) rfl (by kernel_rfl) ?_ (fun hHeld => ?_)
      · (try dsimp only); try exact trivial
      (refine wpL_calm (o := { dst := some 11, op := Go.Op.move (Go.Operand.tmp 3), type := 49, pos := "sha.go:155", after := #[], guard := none }) (v := ?_) rfl (Or.inl ⟨by rfl, ?_⟩) ?_; rotate_left; (focus (intro w hSw; (try dsimp only at hSw); go_simp; (try (with_reducible rfl)); done)); try simp only [Act.put, List.setIfInBounds_toArray, List.set_cons_zero, List.set_cons_succ])
      (refine wpL_calm (o := { dst := some 12, op := Go.Op.move (Go.Operand.tmp 5), type := 5, pos := "sha.go:155", after := #[], guard := none }) (v := ?_) rfl (Or.inl ⟨by rfl, ?_⟩) ?_; rotate_left; (focus (intro w hSw; (try dsimp only at hSw); go_simp; (try (with_reducible rfl)); done)); try simp only [Act.put, List.setIfInBounds_toArray, List.set_cons_zero, List.set_cons_succ])
      (refine wpL_calm (o := { dst := some 13, op := Go.Op.binOp Go.BinOp.shr 5 (Go.Operand.tmp 12) (Go.Operand.const (Go.Value.int Go.IntKind.u64 4)) 62, type := 5, pos := "sha.go:155", after := #[{ on := 1, ground := Go.Ground.data }], guard := none }) (v := ?_) rfl (Or.inl ⟨by rfl, ?_⟩) ?_; rotate_left; (focus (intro w hSw; (try dsimp only at hSw); go_simp; (try (with_reducible rfl)); done)); try simp only [Act.put, List.setIfInBounds_toArray, List.set_cons_zero, List.set_cons_succ])
      (refine wpL_calm (o := { dst := some 14, op := Go.Op.index 9 (Go.Operand.const (Go.Value.string { data := #[48, 49, 50, 51, 52, 53, 54, 55, 56, 57, 97, 98, 99, 100, 101, 102] })) (Go.Operand.tmp 13), type := 5, pos := "sha.go:155", after := #[{ on := 2, ground := Go.Ground.data }], guard := none }) (v := ?_) rfl (Or.inl ⟨by rfl, ?_⟩) ?_; rotate_left; (focus (intro w hSw; (try dsimp only at hSw); go_simp; (try (with_reducible rfl)); done)); try simp only [Act.put, List.setIfInBounds_toArray, List.set_cons_zero, List.set_cons_succ])
      (refine wpL_calm (o := { dst := some 15, op := Go.Op.move (Go.Operand.tmp 5), type := 5, pos := "sha.go:155", after := #[], guard := none }) (v := ?_) rfl (Or.inl ⟨by rfl, ?_⟩) ?_; rotate_left; (focus (intro w hSw; (try dsimp only at hSw); go_simp; (try (with_reducible rfl)); done)); try simp only [Act.put, List.setIfInBounds_toArray, List.set_cons_zero, List.set_cons_succ])
      (refine wpL_calm (o := { dst := some 16, op := Go.Op.binOp Go.BinOp.and 5 (Go.Operand.tmp 15) (Go.Operand.const (Go.Value.int Go.IntKind.u8 15)) 5, type := 5, pos := "sha.go:155", after := #[{ on := 4, ground := Go.Ground.data }], guard := none }) (v := ?_) rfl (Or.inl ⟨by rfl, ?_⟩) ?_; rotate_left; (focus (intro w hSw; (try dsimp only at hSw); go_simp; (try (with_reducible rfl)); done)); try simp only [Act.put, List.setIfInBounds_toArray, List.set_cons_zero, List.set_cons_succ])
      (refine wpL_calm (o := { dst := some 17, op := Go.Op.index 9 (Go.Operand.const (Go.Value.string { data := #[48, 49, 50, 51, 52, 53, 54, 55, 56, 57, 97, 98, 99, 100, 101, 102] })) (Go.Operand.tmp 16), type := 5, pos := "sha.go:155", after := #[{ on := 5, ground := Go.Ground.data }], guard := none }) (v := ?_) rfl (Or.inl ⟨by rfl, ?_⟩) ?_; rotate_left; (focus (intro w hSw; (try dsimp only at hSw); go_simp; (try (with_reducible rfl)); done)); try simp only [Act.put, List.setIfInBounds_toArray, List.set_cons_zero, List.set_cons_succ])
      refine wpL_loud1 (o := { dst := some 18, op := Go.Op.buildSlice 49 2 #[(0, Go.Operand.tmp 14), (1, Go.Operand.tmp 17)], type := 49, pos := "sha.go:155", after := #[{ on := 3, ground := Go.Ground.data }, { on := 6, ground := Go.Ground.data }], guard := none }) rfl (fun K hK => ?_)
      go_simp
      refine hK.out _ _ ?_ (fun hHeld => ?_)
      · (try dsimp only); try trivial
      clear hK K
      try simp only [Act.put, List.setIfInBounds_toArray, List.set_cons_zero, List.set_cons_succ]
      refine wpL_loud1 (o := { dst := some 19, op := Go.Op.call { callee := Go.Callee.builtin Go.Builtin.append, args := #[Go.Operand.tmp 11, Go.Operand.tmp 18], argTypes := #[49, 49] }, type := 49, pos := "sha.go:155", after := #[{ on := 0, ground := Go.Ground.data }, { on := 7, ground := Go.Ground.data }], guard := none }) rfl (fun K hK => ?_)
      (rw [if_pos (by rfl)]; refine wp_append_own _ _ _ 49 rfl gb 5 i0 (.int .u8 0) 1 1 Tryd.underlying49 hi hz0 hz1 hz2 rfl (by decide) _ _ _ rfl (own_alloc HO.out _) ⟨wr.heap.size, 0, none⟩ 2 2 [.int .u8 (c1.toNat : Int), .int .u8 (c2.toNat : Int)] rfl rfl (two_cells wr _ _ _) (by simp [Value.oneCell']) (by unfold maxLen; omega) (by omega) (by simp; omega) ?_; intro v2 w2 O2 G2 _)
      try go_wp2_with fail
      refine hK.out _ _ ?_ (fun hHeld => ?_)
      · (try dsimp only); try trivial
      clear hK K
      try simp only [Act.put, List.setIfInBounds_toArray, List.set_cons_zero, List.set_cons_succ]
      (refine wpL_calm (o := { dst := some 3, op := Go.Op.assign (Go.Operand.tmp 19), type := 49, pos := "sha.go:155", after := #[{ on := 8, ground := Go.Ground.data }, { on := 8, ground := Go.Ground.chain }, { on := 0, ground := Go.Ground.phase }, { on := 1, ground := Go.Ground.phase }, { on := 2, ground := Go.Ground.phase }, { on := 3, ground := Go.Ground.phase }, { on := 4, ground := Go.Ground.phase }, { on := 5, ground := Go.Ground.phase }, { on := 6, ground := Go.Ground.phase }, { on := 7, ground := Go.Ground.phase }, { on := 8, ground := Go.Ground.phase }], guard := none }) (v := ?_) rfl (Or.inl ⟨by rfl, ?_⟩) ?_; rotate_left; (focus (intro w hSw; (try dsimp only at hSw); go_simp; (try (with_reducible rfl)); done)); try simp only [Act.put, List.setIfInBounds_toArray, List.set_cons_zero, List.set_cons_succ])
      refine wpL_nil ?_
      refine NoPanic.normal ?_
      have HO2 := Lib.hid O2
      have hs2 := G2.size
      clear O2
      go_wp2_with fail
      have hB2 : Below gb w0 w2 := ((hB.out.alloc hsb _).drew).grown G2 (by simp; omega) (fun k e => (HO.out.lt k e).1)
      go_roundw
      case rel => exact ⟨k + 1, by go_num, by omega, Lib.hid (by rw [HS.out, List.length_append]; unfold bv; rw [List.map_append]; exact HO2.out), by simp at hs2; omega, Lib.hid hB2⟩
      case measure => simp [intOf]; omega
    · obtain rfl : k = 32 := by omega
      have hcv := conv_owned (P := Tryd.prog) (dst := 9) Tryd.underlying49 Tryd.underlying5 Tryd.underlying9 HO.out
      rw [List.take_of_length_le (by omega)] at hcv
      rw [show ((32 : Nat) : Int) = 32 from rfl]
      clear hx1 hx2
      generalize hHX : (⟨(hexL l).toArray⟩ : ByteArray) = HX at hcv
      have hBB := hlb.out.trans (hB.out.mono (Nat.le_of_lt hlt0))
      have HHX := Lib.hid hHX
      clear hHX
      go_wp2_with fail
      go_ret
      exact ⟨by rw [HHX.out]; rfl, hBB⟩
end Go.Proofs.YtndhegdhkoileaaDoor
