/- Package plan: images as rows of blocks; the reference's Apply. -/
import Derived.Test.YtnlgkhggokloeaaPlM
namespace Go.Proofs.Ytnlgkhggokloeaa
open Go.RowKit Go.Deep
set_option linter.unusedVariables false
set_option linter.unusedSimpArgs false
theorem ext_listP (s : ByteArray) (a b : Nat) : (s.extract a b).data.toList = (s.data.toList.drop a).take (b - a) := by
  rw [ByteArray.data_extract, Array.toList_extract, List.extract_eq_take_drop]
theorem ba_eq {a b : ByteArray} (h : a.data.toList = b.data.toList) : a = b := by
  obtain ⟨⟨a⟩⟩ := a
  obtain ⟨⟨b⟩⟩ := b
  simp at h
  rw [h]
def firL (F : Nat → ByteArray) (k : Nat) : List UInt8 := (List.range k).flatMap (fun j => (F j).data.toList)
def thiL (F : Nat → ByteArray) (k : Nat) : List UInt8 := ((List.range (287 - k)).map (k + 1 + ·)).flatMap (fun j => (F j).data.toList)
theorem cat_split (F : Nat → ByteArray) (k : Nat) (hk : k < 288) : catL F = firL F k ++ (F k).data.toList ++ thiL F k := by
  unfold catL firL thiL
  rw [show (288 : Nat) = k + 1 + (287 - k) by omega, List.range_add, List.range_succ, List.flatMap_append, List.flatMap_append]
  simp
theorem fir_len {F : Nat → ByteArray} (h : ImgF F) : ∀ (k : Nat), k ≤ 288 → (firL F k).length = 64 * k
  | 0, _ => rfl
  | k + 1, hk => by
    have ih := fir_len h k (by omega)
    have h1 := h k (by omega)
    unfold firL at ih ⊢
    rw [List.range_succ, List.flatMap_append, List.length_append, ih]
    have e : ((F k).data.toList).length = (F k).size := Array.length_toList
    simp only [List.flatMap_cons, List.flatMap_nil, List.append_nil]
    omega
theorem cat_len {F : Nat → ByteArray} (h : ImgF F) : (catL F).length = 18432 := fir_len h 288 (Nat.le_refl _)
theorem cat_size {F : Nat → ByteArray} (h : ImgF F) : (catF F).size = 18432 := by
  rw [← cat_len h]; exact bytes_size _
theorem fir_up (F : Nat → ByteArray) (k : Nat) (t : ByteArray) : firL (upB F k t) k = firL F k := by
  unfold firL
  rw [List.flatMap_def, List.flatMap_def]
  congr 1
  apply List.map_congr_left
  intro j hj
  have := List.mem_range.1 hj
  unfold upB
  rw [if_neg (by omega)]
theorem thi_up (F : Nat → ByteArray) (k : Nat) (t : ByteArray) : thiL (upB F k t) k = thiL F k := by
  unfold thiL
  rw [List.flatMap_def, List.flatMap_def]
  congr 1
  apply List.map_congr_left
  intro j hj
  obtain ⟨i, _, rfl⟩ := List.mem_map.1 hj
  unfold upB
  rw [if_neg (by omega)]
theorem cat_dat (F : Nat → ByteArray) : (catF F).data.toList = catL F := rfl
theorem cat_first {F : Nat → ByteArray} (h : ImgF F) {k : Nat} (hk : k < 288) : (catF F).extract 0 (64 * k) = ⟨(firL F k).toArray⟩ := by
  apply ba_eq
  rw [ext_listP, cat_dat, cat_split F k hk, List.drop_zero, Nat.sub_zero, List.append_assoc]
  exact List.take_left' (fir_len h k (by omega))
theorem cat_third {F : Nat → ByteArray} (h : ImgF F) {k : Nat} (hk : k < 288) : (catF F).extract (64 * k + 64) 18432 = ⟨(thiL F k).toArray⟩ := by
  have hl := cat_len h
  have h1 := fir_len h k (by omega)
  have h2 := h k hk
  have e : ((F k).data.toList).length = (F k).size := Array.length_toList
  have hL : (firL F k ++ (F k).data.toList).length = 64 * k + 64 := by rw [List.length_append]; omega
  rw [cat_split F k hk, List.length_append, hL] at hl
  apply ba_eq
  rw [ext_listP, cat_dat, cat_split F k hk, List.drop_left' hL]
  exact List.take_of_length_le (by omega)
theorem cat_blk {F : Nat → ByteArray} (h : ImgF F) {k : Nat} (hk : k < 288) : blkP (catF F) k = F k := by
  have h1 := fir_len h k (by omega)
  have h2 := h k hk
  have e : ((F k).data.toList).length = (F k).size := Array.length_toList
  unfold blkP
  apply ba_eq
  rw [ext_listP, cat_dat, cat_split F k hk, List.append_assoc, List.drop_left' (by omega)]
  exact List.take_left' (by omega)
theorem cat_set {F : Nat → ByteArray} (h : ImgF F) {k : Nat} (hk : k < 288) (t : ByteArray) : (catF F).extract 0 (64 * k) ++ t ++ (catF F).extract (64 * k + 64) 18432 = catF (upB F k t) := by
  rw [cat_first h hk, cat_third h hk]
  apply ba_eq
  rw [cat_dat, cat_split (upB F k t) k hk, fir_up, thi_up]
  rw [ByteArray.data_append, ByteArray.data_append, Array.toList_append, Array.toList_append]
  unfold upB
  rw [if_pos rfl]
theorem firL_blk (s : ByteArray) : ∀ k, firL (blkP s) k = s.data.toList.take (64 * k)
  | 0 => by simp [firL]
  | k + 1 => by
    have ih := firL_blk s k
    unfold firL at ih ⊢
    rw [List.range_succ, List.flatMap_append, ih]
    simp only [List.flatMap_cons, List.flatMap_nil, List.append_nil]
    unfold blkP
    rw [ext_listP, show (k + 1) * 64 - k * 64 = 64 by omega, show k * 64 = 64 * k by omega, show 64 * (k + 1) = 64 * k + 64 by omega, List.take_add]
theorem blk_cat {s : ByteArray} (h : s.size = 18432) : catF (blkP s) = s := by
  apply ba_eq
  rw [cat_dat]
  show firL (blkP s) 288 = _
  rw [firL_blk]
  exact List.take_of_length_le (by rw [Array.length_toList]; exact Nat.le_of_eq h)
set_option maxRecDepth 100000 in
set_option maxHeartbeats 8000000 in
theorem rapply_any (s : ByteArray) (ao : Option Addr) (c : Nat) (L : List Pu) (w : World) (hs : s.size = 18432) (hat : PuAt w ao L) (hn : L.length ≤ 50000) (hok : ∀ p ∈ L, okP p = 0) : Calls Try.prog 20 #[.string s, .slice ao L.length c] w fun e w' => e = .returned (.string (catF (layF (blkP s) L))) ∧ Below w.heap.size w w' := by
  have HAT := Lib.hid hat
  have HP := Lib.hid hok
  obtain ⟨n, hnn⟩ : ∃ n, Hid (L.length = n) := ⟨_, Lib.hid rfl⟩
  have HI := Lib.hid (blk_img hs)
  have HS0 : Hid (s = catF (layF (blkP s) (L.take 0))) := Lib.hid (blk_cat hs).symm
  rw [hnn.out] at hn ⊢
  clear hat hok
  go_enter Try.func20, Try.ntmps20
  go_wp2_with fail
  go_loopw [0, 5] (fun s0 s5 wi => ∃ (i : Nat) (T : ByteArray), s5 = .int .i64 (i : Int) ∧ i ≤ n ∧ s0 = .string T ∧ Hid (T = catF (layF (blkP s) (L.take i))) ∧ Hid (Below w.heap.size w wi)) (fun _ s5 _ => n - (intOf s5).toNat)
  case atStart => exact ⟨0, s, rfl, by omega, rfl, HS0, Lib.hid (Below.refl _ _)⟩
  case round =>
    obtain ⟨i, T, rfl, hi, rfl, HT, HB⟩ := hrel
    by_cases hlt : i < n
    · as_aux_lemma =>
      have hli : (i : Int) < (n : Int) := by omega
      have hil : i < L.length := by rw [hnn.out]; exact hlt
      obtain ⟨g, o, rfl, hg, hc⟩ := HAT.out (by omega)
      have c0 := (HB.out.cell (p := ⟨g, o + i * 2, none⟩) hg).trans (hc i hil).1
      have c1 := (HB.out.cell (p := ⟨g, o + i * 2 + 1, none⟩) hg).trans (hc i hil).2
      obtain ⟨h0, h287, h64⟩ := okP_zero (HP.out _ (List.getElem_mem hil))
      have hIF := layF_img HI.out (L := L.take i) (fun p hp => HP.out p (List.mem_of_mem_take hp))
      have HT2 : Hid (layF (blkP s) (L.take (i + 1)) = upB (layF (blkP s) (L.take i)) L[i].1.toNat L[i].2) := Lib.hid (by rw [take_snoc L i hil, layF_snoc])
      clear hc
      generalize layF (blkP s) (L.take i) = F at *
      generalize L[i] = z at *
      obtain ⟨x, t⟩ := z
      have h0 : 0 ≤ x := h0
      have h287 : x ≤ 287 := h287
      have h64 : t.size = 64 := h64
      obtain ⟨k, rfl⟩ : ∃ k : Nat, x = (k : Int) := ⟨x.toNat, by omega⟩
      have hk : k < 288 := by omega
      have HSET : Hid (T.extract 0 (64 * k) ++ t ++ T.extract (64 * k + 64) 18432 = catF (layF (blkP s) (L.take (i + 1)))) := Lib.hid (by rw [HT2.out, HT.out]; exact cat_set hIF hk t)
      have c0 : wr.cell? ⟨g, o + i * 2, none⟩ = some (.int .i64 (k : Int)) := c0
      have c1 : wr.cell? ⟨g, o + i * 2 + 1, none⟩ = some (.string t) := c1
      have hTs : T.size = 18432 := by rw [HT.out]; exact cat_size hIF
      have hA : (T.extract 0 (64 * k)).size = 64 * k := by rw [ByteArray.size_extract]; omega
      have hC : (T.extract (64 * k + 64) 18432).size = 18432 - (64 * k + 64) := by rw [ByteArray.size_extract]; omega
      have e1 : ((64 : Int) * (k : Int)).toNat = 64 * k := by omega
      have e2 : ((64 : Int) * (k : Int) + 64).toNat = 64 * k + 64 := by omega
      have d0 : (0 : Int) ≤ 64 * (k : Int) := by omega
      have d1 : (64 : Int) * (k : Int) ≤ 18432 := by omega
      have d2 : (0 : Int) ≤ 64 * (k : Int) + 64 := by omega
      have d3 : (64 : Int) * (k : Int) + 64 ≤ 18432 := by omega
      have q1 : (9223372036854775807 < 64 * k + 64) = False := eq_false (by omega)
      have q2 : (9223372036854775807 < 64 * k + 64 + (18368 - 64 * k)) = False := eq_false (by omega)
      have hwr : IntKind.i64.wrap (64 * (k : Int) + 64) = 64 * (k : Int) + 64 := by rw [IntKind.wrap_i64]; omega
      clear HT HT2 hIF
      go_upto_region 5 with fail
      refine wp_region_lin (S := (fun w' => w'.cell? ⟨g, o + i * 2, none⟩ = some (.int .i64 (k : Int)) ∧ w'.cell? ⟨g, o + i * 2 + 1, none⟩ = some (.string t))) [(0, true), (1, true), (2, true), (3, true), (4, true), (5, true), (6, true), (7, true), (8, true), (9, true), (10, true), (11, true), (12, true), (13, true), (14, true)] (by kernel_rfl) (by kernel_rfl) rfl (by kernel_rfl) ?_ (fun hHeld => ?_)
      · (try dsimp only); exact ⟨c0, c1⟩
      (refine wpL_calm (o := { dst := some 19, op := Go.Op.move (Go.Operand.tmp 0), type := 9, pos := "ref.go:47", after := #[], guard := none }) (v := ?_) rfl (Or.inl ⟨by rfl, ?_⟩) ?_; rotate_left; (focus (intro w hSw; (try dsimp only at hSw); go_simp; (try (with_reducible rfl)); done)); try simp only [Act.put, List.setIfInBounds_toArray, List.set_cons_zero, List.set_cons_succ])
      (refine wpL_calm (o := { dst := some 20, op := Go.Op.move (Go.Operand.tmp 6), type := 3, pos := "ref.go:47", after := #[], guard := none }) (v := ?_) rfl (Or.inl ⟨by rfl, ?_⟩) ?_; rotate_left; (focus (intro w hSw; (try dsimp only at hSw); go_simp; (try (with_reducible rfl)); done)); try simp only [Act.put, List.setIfInBounds_toArray, List.set_cons_zero, List.set_cons_succ])
      (refine wpL_calm (o := { dst := some 21, op := Go.Op.slice 9 (Go.Operand.tmp 19) none (some (Go.Operand.tmp 20)) none, type := 9, pos := "ref.go:47", after := #[{ on := 0, ground := Go.Ground.data }, { on := 1, ground := Go.Ground.data }], guard := none }) (v := ?_) rfl (Or.inl ⟨by rfl, ?_⟩) ?_; rotate_left; (focus (intro w hSw; (try dsimp only at hSw); go_simp; (try (with_reducible rfl)); done)); try simp only [Act.put, List.setIfInBounds_toArray, List.set_cons_zero, List.set_cons_succ])
      (refine wpL_calm (o := { dst := some 22, op := Go.Op.move (Go.Operand.tmp 1), type := 25, pos := "ref.go:47", after := #[], guard := none }) (v := ?_) rfl (Or.inl ⟨by rfl, ?_⟩) ?_; rotate_left; (focus (intro w hSw; (try dsimp only at hSw); go_simp; (try (with_reducible rfl)); done)); try simp only [Act.put, List.setIfInBounds_toArray, List.set_cons_zero, List.set_cons_succ])
      (refine wpL_calm (o := { dst := some 23, op := Go.Op.move (Go.Operand.tmp 5), type := 3, pos := "ref.go:47", after := #[], guard := none }) (v := ?_) rfl (Or.inl ⟨by rfl, ?_⟩) ?_; rotate_left; (focus (intro w hSw; (try dsimp only at hSw); go_simp; (try (with_reducible rfl)); done)); try simp only [Act.put, List.setIfInBounds_toArray, List.set_cons_zero, List.set_cons_succ])
      (refine wpL_calm (o := { dst := some 24, op := Go.Op.indexAddr 25 (Go.Operand.tmp 22) (Go.Operand.tmp 23), type := 0, pos := "ref.go:47", after := #[{ on := 3, ground := Go.Ground.data }, { on := 4, ground := Go.Ground.data }], guard := none }) (v := ?_) rfl (Or.inl ⟨by rfl, ?_⟩) ?_; rotate_left; (focus (intro w hSw; (try dsimp only at hSw); go_simp; (try (with_reducible rfl)); done)); try simp only [Act.put, List.setIfInBounds_toArray, List.set_cons_zero, List.set_cons_succ])
      (refine wpL_calm (o := { dst := some 25, op := Go.Op.fieldAddr 48 (Go.Operand.tmp 24) 1, type := 0, pos := "ref.go:47", after := #[{ on := 5, ground := Go.Ground.data }], guard := none }) (v := ?_) rfl (Or.inl ⟨by rfl, ?_⟩) ?_; rotate_left; (focus (intro w hSw; (try dsimp only at hSw); go_simp; (try (with_reducible rfl)); done)); try simp only [Act.put, List.setIfInBounds_toArray, List.set_cons_zero, List.set_cons_succ])
      (refine wpL_calm (o := { dst := some 26, op := Go.Op.load 9 (Go.Operand.tmp 25), type := 9, pos := "ref.go:47", after := #[{ on := 6, ground := Go.Ground.data }], guard := none }) (v := ?_) rfl (Or.inl ⟨by rfl, ?_⟩) ?_; rotate_left; (focus (intro w hSw; (try dsimp only at hSw); go_simp; (try (with_reducible rfl)); done)); try simp only [Act.put, List.setIfInBounds_toArray, List.set_cons_zero, List.set_cons_succ])
      (refine wpL_calm (o := { dst := some 27, op := Go.Op.binOp Go.BinOp.add 9 (Go.Operand.tmp 21) (Go.Operand.tmp 26) 9, type := 9, pos := "ref.go:47", after := #[{ on := 2, ground := Go.Ground.data }, { on := 7, ground := Go.Ground.data }], guard := none }) (v := ?_) rfl (Or.inl ⟨by rfl, ?_⟩) ?_; rotate_left; (focus (intro w hSw; (try dsimp only at hSw); go_simp; (try (with_reducible rfl)); done)); try simp only [Act.put, List.setIfInBounds_toArray, List.set_cons_zero, List.set_cons_succ])
      (refine wpL_calm (o := { dst := some 28, op := Go.Op.move (Go.Operand.tmp 0), type := 9, pos := "ref.go:47", after := #[], guard := none }) (v := ?_) rfl (Or.inl ⟨by rfl, ?_⟩) ?_; rotate_left; (focus (intro w hSw; (try dsimp only at hSw); go_simp; (try (with_reducible rfl)); done)); try simp only [Act.put, List.setIfInBounds_toArray, List.set_cons_zero, List.set_cons_succ])
      (refine wpL_calm (o := { dst := some 29, op := Go.Op.move (Go.Operand.tmp 6), type := 3, pos := "ref.go:47", after := #[], guard := none }) (v := ?_) rfl (Or.inl ⟨by rfl, ?_⟩) ?_; rotate_left; (focus (intro w hSw; (try dsimp only at hSw); go_simp; (try (with_reducible rfl)); done)); try simp only [Act.put, List.setIfInBounds_toArray, List.set_cons_zero, List.set_cons_succ])
      (refine wpL_calm (o := { dst := some 30, op := Go.Op.binOp Go.BinOp.add 3 (Go.Operand.tmp 29) (Go.Operand.const (Go.Value.int Go.IntKind.i64 64)) 3, type := 3, pos := "ref.go:47", after := #[{ on := 10, ground := Go.Ground.data }], guard := none }) (v := ?_) rfl (Or.inl ⟨by rfl, ?_⟩) ?_; rotate_left; (focus (intro w hSw; (try dsimp only at hSw); go_simp; (try (with_reducible rfl)); done)); try simp only [Act.put, List.setIfInBounds_toArray, List.set_cons_zero, List.set_cons_succ])
      (refine wpL_calm (o := { dst := some 31, op := Go.Op.slice 9 (Go.Operand.tmp 28) (some (Go.Operand.tmp 30)) none none, type := 9, pos := "ref.go:47", after := #[{ on := 9, ground := Go.Ground.data }, { on := 11, ground := Go.Ground.data }], guard := none }) (v := ?_) rfl (Or.inl ⟨by rfl, ?_⟩) ?_; rotate_left; (focus (intro w hSw; (try dsimp only at hSw); go_simp; (try (with_reducible rfl)); done)); try simp only [Act.put, List.setIfInBounds_toArray, List.set_cons_zero, List.set_cons_succ])
      (refine wpL_calm (o := { dst := some 32, op := Go.Op.binOp Go.BinOp.add 9 (Go.Operand.tmp 27) (Go.Operand.tmp 31) 9, type := 9, pos := "ref.go:47", after := #[{ on := 8, ground := Go.Ground.data }, { on := 12, ground := Go.Ground.data }], guard := none }) (v := ?_) rfl (Or.inl ⟨by rfl, ?_⟩) ?_; rotate_left; (focus (intro w hSw; (try dsimp only at hSw); go_simp; (try (with_reducible rfl)); done)); try simp only [Act.put, List.setIfInBounds_toArray, List.set_cons_zero, List.set_cons_succ])
      (refine wpL_calm (o := { dst := some 0, op := Go.Op.assign (Go.Operand.tmp 32), type := 9, pos := "ref.go:47", after := #[{ on := 13, ground := Go.Ground.data }, { on := 0, ground := Go.Ground.phase }, { on := 1, ground := Go.Ground.phase }, { on := 2, ground := Go.Ground.phase }, { on := 3, ground := Go.Ground.phase }, { on := 4, ground := Go.Ground.phase }, { on := 5, ground := Go.Ground.phase }, { on := 6, ground := Go.Ground.phase }, { on := 7, ground := Go.Ground.phase }, { on := 8, ground := Go.Ground.phase }, { on := 9, ground := Go.Ground.phase }, { on := 10, ground := Go.Ground.phase }, { on := 11, ground := Go.Ground.phase }, { on := 12, ground := Go.Ground.phase }, { on := 13, ground := Go.Ground.phase }], guard := none }) (v := ?_) rfl (Or.inl ⟨by rfl, ?_⟩) ?_; rotate_left; (focus (intro w hSw; (try dsimp only at hSw); go_simp; (try (with_reducible rfl)); done)); try simp only [Act.put, List.setIfInBounds_toArray, List.set_cons_zero, List.set_cons_succ])
      refine wpL_nil ?_
      refine NoPanic.normal ?_
      go_wp2_with fail
      go_roundw
      case rel => exact ⟨i + 1, _, by go_num, by omega, rfl, HSET, Lib.hid HB.out.drew⟩
      case measure => simp [intOf]; omega
    · as_aux_lemma =>
      have hli : ¬ (i : Int) < (n : Int) := by omega
      have hin : i = n := by omega
      have hT := HT.out
      rw [hin, ← hnn.out, List.take_length] at hT
      go_wp2_with fail
      go_ret
      exact ⟨by first | rfl | (rw [hT]; rfl), HB.out⟩
end Go.Proofs.Ytnlgkhggokloeaa
