/- The law FlatOne. -/
import Derived.Test.YtaemnelfnopjdaaFbA
namespace Go.Proofs.Ytaemnelfnopjdaa
open Go.ChangeShapes Go.WideShapes Go.Deep Go.RowKit Go.Maps
set_option linter.unusedVariables false
set_option linter.unusedSimpArgs false
theorem conv_u8F (z : Nat) (h : z ≤ 255) (w : World) : (convert 5 3 (.int .u8 (z : Int))).run Try.prog w = .ok (.int .i64 (z : Int)) w := by
  go_simp
  rw [IntKind.wrap_i64]
  omega
theorem cat_now (now : List UInt8) (s : ByteArray) (A kk qa qb : Nat) (h1 : qa = 48 * A) (h2 : qb = 48 * A + 48 * kk) : (⟨now.toArray⟩ : ByteArray).extract 0 qa ++ s ++ (⟨now.toArray⟩ : ByteArray).extract qb (⟨now.toArray⟩ : ByteArray).size = ⟨(now.take (48 * A) ++ (s.data.toList ++ now.drop (48 * A + 48 * kk))).toArray⟩ := by
  apply ba_eqF
  rw [ByteArray.data_append, ByteArray.data_append, Array.toList_append, Array.toList_append, ByteArray.data_extract, ByteArray.data_extract, Array.toList_extract, Array.toList_extract, List.extract_eq_take_drop, List.extract_eq_take_drop, h1, h2, bytes_size]
  show (now.drop 0).take (48 * A - 0) ++ s.data.toList ++ (now.drop (48 * A + 48 * kk)).take (now.length - (48 * A + 48 * kk)) = now.take (48 * A) ++ (s.data.toList ++ now.drop (48 * A + 48 * kk))
  rw [List.drop_zero, Nat.sub_zero, List.append_assoc, List.take_of_length_le (l := now.drop _) (by rw [List.length_drop]; exact Nat.le_refl _)]
theorem Kq.other_cell {A : Nat} {N : List Nat} {w w' : World} (h : Kq A N w w') {g o : Nat} (hg : g < w.heap.size) (hn : g ∉ N) : w'.cell? ⟨g, o, none⟩ = w.cell? ⟨g, o, none⟩ := by
  simp only [World.cell?]
  rw [h.other g hg hn]
theorem FlW.noact {w : World} {B g k : Nat} {OL CL : List Nat} {M : Fl} (h : FlW w B g OL CL M) (hk : tyAt w k = some 32) : k ∉ OL := fun hm => by
  obtain ⟨vt, vf, vc, cm, bm, D, h, rfl, rfl⟩ := h
  rcases h.own_ty hm with e | e | e | e | e <;> rw [hk] at e <;> revert e <;> decide
theorem act_boxF (w : World) (x : AcF) : ∃ w1, Hid (w.alloc (.cells #[.int .i64 x.k, .int .i64 x.a, .int .i64 x.n, .int .u8 (x.c.toNat : Int), .bool x.o] 32) = w1) ∧ w1.heap[w.heap.size]? = some (.cells #[.int .i64 x.k, .int .i64 x.a, .int .i64 x.n, .int .u8 (x.c.toNat : Int), .bool x.o] 32 (0, 0)) ∧ Below w.heap.size w w1 ∧ w1.heap.size = w.heap.size + 1 :=
  ⟨_, Lib.hid rfl, heap_alloc_new _ _, (Below.refl _ _).alloc (Nat.le_refl _) _, by simp⟩
set_option maxRecDepth 100000 in
set_option maxHeartbeats 16000000 in
theorem flatOne_any (z : Nat) (ao : Option Addr) (cap : Nat) (L : List AcF) (w : World) (hz : z ≤ 255) (hL : AfAt w ao L) (hLn : L.length ≤ maxLen) (hA : ∀ x ∈ L, AcOk x) : Calls Try.prog 4 #[.int .u8 (z : Int), .slice ao L.length cap] w fun e w' => e = .returned (.bool true) ∧ Below w.heap.size w w' := by
  obtain ⟨m, hm⟩ : ∃ m, z % 64 = m := ⟨_, rfl⟩
  have hm64 : m < 64 := by omega
  have hmod : (z : Int) % 64 = (m : Int) := by omega
  have htm : Int.tmod (z : Int) 64 = (m : Int) := by rw [Int.tmod_eq_emod_of_nonneg (by omega)]; exact hmod
  have hcv := conv_u8F m (by omega)
  obtain ⟨K, hK⟩ : ∃ K, m + 1 = K := ⟨_, rfl⟩
  have e1 : (m : Int) + 1 = (K : Int) := by omega
  have hK1 : 1 ≤ K := by omega
  have hK64 : K ≤ 64 := by omega
  have CN := Lib.hid (new_ok K w hK1 hK64)
  have CZ := Lib.hid (fun w => zeros_anyF (48 * K) w (by omega))
  obtain ⟨q, hq⟩ : ∃ q, Hid (48 * K = q) := ⟨_, Lib.hid rfl⟩
  rw [hq.out] at CZ
  have e48 : (48 : Int) * (K : Int) = (q : Int) := by have := hq.out; omega
  have hR0 := R1.start hK1 hK64
  rw [hq.out] at hR0
  have HR0 := Lib.hid hR0
  have HL := Lib.hid hL
  have HA := Lib.hid hA
  obtain ⟨nl, hnl⟩ : ∃ nl, Hid (L.length = nl) := ⟨_, Lib.hid rfl⟩
  rw [hnl.out] at hLn ⊢
  have hnlb : nl ≤ 9223372036854775807 := by unfold maxLen at hLn; omega
  clear hL hA hR0 hm hK hLn
  go_enter Try.func4, Try.ntmps4
  go_wp2_with fail
  refine CN.out.mono ?_
  rintro e w1 ⟨g, OL0, rfl, f1, b1⟩
  have HB1 := Lib.hid b1
  have H1 := Lib.hid f1
  clear CN b1 f1 hcv hmod htm
  go_wp2_with fail
  refine (awake26 w1).mono ?_
  rintro e w2 ⟨rfl, b2⟩
  have HB2 := Lib.hid (HB1.out.trans (b2.mono HB1.out.size))
  have H2 := Lib.hid (H1.out.below b2)
  clear b2 HB1 H1
  go_wp2_with fail
  refine (CZ.out w2).mono ?_
  rintro e w3 ⟨rfl, b3⟩
  have HB3 := Lib.hid (HB2.out.trans (b3.mono HB2.out.size))
  have H3 := Lib.hid (H2.out.below b3)
  clear b3 HB2 H2 CZ
  go_wp2_with fail
  go_loopw [8, 9] (fun s8 s9 wi => ∃ (i : Nat) (M : Fl) (OL CL : List Nat) (f : List Nat) (now : List UInt8) (NB : ByteArray), s9 = .int .i64 (i : Int) ∧ i ≤ 40 ∧ i ≤ nl ∧ s8 = .string NB ∧ Hid (NB = ⟨now.toArray⟩) ∧ Hid (FlW wi w.heap.size g OL CL M) ∧ Hid (R1 K M f now) ∧ M.T.length ≤ 1 + 100 * i ∧ M.C.length ≤ i ∧ Hid (Below w.heap.size w wi)) (fun _ s9 _ => 40 - (intOf s9).toNat)
  case atStart => exact ⟨0, newM K, OL0, [], zst, List.replicate q 0, ⟨(List.replicate q 0).toArray⟩, rfl, by omega, by omega, rfl, Lib.hid rfl, H3, HR0, by show 1 ≤ 1; omega, by show 0 ≤ 0; omega, HB3⟩
  case round =>
    obtain ⟨i, M, OL, CL, f, now, NB, rfl, hi, hin, rfl, hNB, HF, HR, hT, hC, HB⟩ := hrel
    clear H3 HR0 HB3
    by_cases hgo : (i : Int) < (nl : Int) ∧ (i : Int) < 40
    · as_aux_lemma =>
      obtain ⟨g1, g2⟩ := hgo
      have hiL : i < L.length := by rw [hnl.out]; omega
      obtain ⟨ga, oa, rfl, hga, hcc⟩ := HL.out (by omega)
      obtain ⟨c0, c1, c2, c3, c4⟩ := (hcc i hiL).below hga HB.out
      have hac := HA.out _ (List.getElem_mem hiL)
      obtain ⟨x, hx⟩ : ∃ x, Hid (L[i] = x) := ⟨_, Lib.hid rfl⟩
      rw [hx.out] at c0 c1 c2 c3 c4 hac
      obtain ⟨w4, HW4, r4, b4, s4⟩ := act_boxF wr x
      have H4 := Lib.hid (HF.out.below b4)
      have HB4 := Lib.hid (HB.out.trans (b4.mono HB.out.size))
      have CD := Lib.hid (data_any x w4)
      have hacv : acV x = .agg #[.int .i64 x.k, .int .i64 x.a, .int .i64 x.n, .int .u8 (x.c.toNat : Int), .bool x.o] := rfl
      rw [hacv] at CD
      have hsb := datB_size x
      obtain ⟨s, hs⟩ : ∃ s, daB x = s := ⟨_, rfl⟩
      rw [hs] at CD hsb
      obtain ⟨gx, hgx⟩ : ∃ gx, Hid (wr.heap.size = gx) := ⟨_, Lib.hid rfl⟩
      rw [hgx.out] at r4
      have hgxl : gx < w4.heap.size := (Array.getElem?_eq_some_iff.1 r4).1
      obtain ⟨xk, xa, xn, xc, xo⟩ := x
      simp only at c0 c1 c2 c3 c4 r4 HW4 CD
      have k0 : w4.cell? ⟨gx, 0, none⟩ = some (.int .i64 xk) := cell_of_row w4 gx 0 _ _ _ r4
      have k1 : w4.cell? ⟨gx, 1, none⟩ = some (.int .i64 xa) := cell_of_row w4 gx 1 _ _ _ r4
      have k2 : w4.cell? ⟨gx, 2, none⟩ = some (.int .i64 xn) := cell_of_row w4 gx 2 _ _ _ r4
      have k3 : w4.cell? ⟨gx, 3, none⟩ = some (.int .u8 (xc.toNat : Int)) := cell_of_row w4 gx 3 _ _ _ r4
      have k4 : w4.cell? ⟨gx, 4, none⟩ = some (.bool xo) := cell_of_row w4 gx 4 _ _ _ r4
      obtain ⟨ok1, ok2, ok3⟩ := hac
      simp only at ok1 ok2 ok3
      have hty4 : tyAt w4 gx = some 32 := tyAt_cells r4
      clear hx hs hacv r4 b4 s4 HF HB hcc
      go_upto_region 10 with fail
      rw [HW4.out, hgx.out]
      clear HW4 c0 c1 c2 c3 c4
      go_wp2_with fail
      refine CD.out.mono ?_
      rintro e w5 ⟨rfl, b5⟩
      have H5 := Lib.hid (H4.out.below b5)
      have HB5 := Lib.hid (HB4.out.trans (b5.mono HB4.out.size))
      have k0 := (b5.cell (p := ⟨gx, 0, none⟩) hgxl).trans k0
      have k1 := (b5.cell (p := ⟨gx, 1, none⟩) hgxl).trans k1
      have k2 := (b5.cell (p := ⟨gx, 2, none⟩) hgxl).trans k2
      have hgx5 := Nat.lt_of_lt_of_le hgxl b5.size
      have hty : tyAt w5 gx = some 32 := (tyAt_same (b5.block gx hgxl)).trans hty4
      have HGX : Hid (gx ∉ OL) := Lib.hid (fun hm => H5.out.noact hty hm)
      clear CD b5 H4 HB4 k3 k4
      by_cases hk012 : xk = 0 ∨ xk = 1 ∨ xk = 2
      · as_aux_lemma =>
        have hwn : wholeN s.size ≤ 70 := by unfold wholeN; split <;> omega
        by_cases hr : refF M.n xa (wholeN s.size : Int) = 0
        · as_aux_lemma =>
          have CW := Lib.hid (write_yes xa s H5.out HR.out.ok.n64 (by omega) hr (by omega) (by omega))
          obtain ⟨p1, p2, p3⟩ := refF_ok hr
          have hsz := whole_ok (n := s.size) p1
          obtain ⟨A, rfl⟩ : ∃ A : Nat, xa = (A : Int) := ⟨xa.toNat, by omega⟩
          obtain ⟨kk, hkk⟩ : ∃ kk, wholeN s.size = kk := ⟨_, rfl⟩
          rw [hkk, show ((A : Int)).toNat = A by omega] at CW
          rw [hkk] at p1 p3 hsz
          rw [HR.out.n] at p3
          have hls : s.data.toList.length = 48 * kk := by rw [Array.length_toList]; exact hsz
          have HRN := Lib.hid (HR.out.wr (a := A) (k := kk) hls (by omega) (by omega))
          obtain ⟨MT, hMT⟩ : ∃ MT, wrM M A s.data.toList kk = MT := ⟨_, rfl⟩
          have hml := wrM_len M A s.data.toList kk
          rw [hMT] at CW HRN hml
          have hTT : MT.T.length ≤ 1 + 100 * (i + 1) := by omega
          have hCT : MT.C.length ≤ i + 1 := by omega
          have hNs : NB.size = q := by rw [hNB.out, bytes_size, HR.out.len]; exact hq.out
          have hqK := hq.out
          have hwa : ∀ n : Nat, n ≤ 100000 → IntKind.i64.wrap (n : Int) = (n : Int) := fun n hn => by rw [IntKind.wrap_i64]; omega
          obtain ⟨qa, hqa⟩ : ∃ qa, 48 * A = qa := ⟨_, rfl⟩
          have ea : (48 : Int) * (A : Int) = (qa : Int) := by omega
          obtain ⟨qb, hqb⟩ : ∃ qb, qa + s.size = qb := ⟨_, rfl⟩
          have eb : (qa : Int) + (s.size : Int) = (qb : Int) := by omega
          have l1 : (qa : Int) ≤ (q : Int) := by omega
          have l2 : (qb : Int) ≤ (q : Int) := by omega
          have wa := hwa qa (by omega)
          have wb := hwa qb (by omega)
          clear hwa
          have l0 : (0 : Int) ≤ (qa : Int) := by omega
          have l3 : (0 : Int) ≤ (qb : Int) := by omega
          obtain ⟨X1, hX1⟩ : ∃ X1, NB.extract 0 qa = X1 := ⟨_, rfl⟩
          obtain ⟨X2, hX2⟩ : ∃ X2, NB.extract qb q = X2 := ⟨_, rfl⟩
          have hx1 : X1.size = qa := by rw [← hX1, ByteArray.size_extract]; omega
          have hx2 : X2.size ≤ 48 * K := by rw [← hX2, ByteArray.size_extract]; omega
          have hX2' : NB.extract qb NB.size = X2 := by rw [hNs]; exact hX2
          have hc1 : (9223372036854775807 < X1.size + s.size) = False := by simp; omega
          have hc2 : (9223372036854775807 < (X1 ++ s).size + X2.size) = False := by rw [ByteArray.size_append]; simp; omega
          have hc2' : (9223372036854775807 < X1.size + s.size + X2.size) = False := by simp; omega
          have hNBN : Hid (X1 ++ s ++ X2 = ⟨(now.take (48 * A) ++ (s.data.toList ++ now.drop (48 * A + 48 * kk))).toArray⟩) := Lib.hid (by rw [← hX1, ← hX2', hNB.out]; exact cat_now now s A kk qa qb (by omega) (by omega))
          clear hMT hls hml hkk p1 p2 p3 hr hwn hqa hqb hsz hX2' hqK hx1 hx2
          rcases hk012 with rfl | rfl | rfl
          all_goals
            go_wp2_with fail
            refine CW.out.mono ?_
            rintro e w6 ⟨rfl, OL6, CL6, f6, kq6, _, _⟩
            have H6 := Lib.hid f6
            have HS6 := Lib.hid kq6.below.size
            have HB6 := Lib.hid (HB5.out.trans kq6.below)
            have j1 : w6.cell? ⟨gx, 1, none⟩ = some (.int .i64 (A : Int)) := (kq6.other_cell hgx5 HGX.out).trans k1
            clear CW f6 kq6
            have h6l : gx < w6.heap.size := Nat.lt_of_lt_of_le hgx5 HS6.out
            go_upto_region 16 with fail
            refine wp_region_lin_all (S := (fun w' => w'.cell? ⟨gx, 1, none⟩ = some (.int .i64 (A : Int)))) [(0, true), (1, true), (2, true), (3, true), (4, true), (5, true), (6, true), (7, true), (8, true), (9, true), (10, true), (11, true), (12, true), (13, true), (14, true), (15, true), (16, true)] (by kernel_rfl) (by kernel_rfl) rfl (by kernel_rfl) ?_ (fun hHeld => ?_)
            · (try dsimp only); exact j1
            (refine wpL_calm (o := { dst := some 64, op := Go.Op.move (Go.Operand.tmp 8), type := 9, pos := "law.go:119", after := #[], guard := none }) (v := ?_) rfl (Or.inl ⟨by rfl, ?_⟩) ?_; rotate_left; (focus (intro w hSw; (try dsimp only at hSw); go_simp; (try (with_reducible rfl)); done)); try simp only [Act.put, List.setIfInBounds_toArray, List.set_cons_zero, List.set_cons_succ])
            (refine wpL_calm (o := { dst := some 65, op := Go.Op.fieldAddr 32 (Go.Operand.tmp 10) 1, type := 0, pos := "law.go:119", after := #[], guard := none }) (v := ?_) rfl (Or.inl ⟨by rfl, ?_⟩) ?_; rotate_left; (focus (intro w hSw; (try dsimp only at hSw); go_simp; (try (with_reducible rfl)); done)); try simp only [Act.put, List.setIfInBounds_toArray, List.set_cons_zero, List.set_cons_succ])
            (refine wpL_calm (o := { dst := some 66, op := Go.Op.load 3 (Go.Operand.tmp 65), type := 3, pos := "law.go:119", after := #[{ on := 1, ground := Go.Ground.data }], guard := none }) (v := ?_) rfl (Or.inl ⟨by rfl, ?_⟩) ?_; rotate_left; (focus (intro w hSw; (try dsimp only at hSw); go_simp; (try (with_reducible rfl)); done)); try simp only [Act.put, List.setIfInBounds_toArray, List.set_cons_zero, List.set_cons_succ])
            (refine wpL_calm (o := { dst := some 67, op := Go.Op.binOp Go.BinOp.mul 3 (Go.Operand.const (Go.Value.int Go.IntKind.i64 48)) (Go.Operand.tmp 66) 3, type := 3, pos := "law.go:119", after := #[{ on := 2, ground := Go.Ground.data }], guard := none }) (v := ?_) rfl (Or.inl ⟨by rfl, ?_⟩) ?_; rotate_left; (focus (intro w hSw; (try dsimp only at hSw); go_simp; (try (with_reducible rfl)); done)); try simp only [Act.put, List.setIfInBounds_toArray, List.set_cons_zero, List.set_cons_succ])
            (refine wpL_calm (o := { dst := some 68, op := Go.Op.slice 9 (Go.Operand.tmp 64) none (some (Go.Operand.tmp 67)) none, type := 9, pos := "law.go:119", after := #[{ on := 0, ground := Go.Ground.data }, { on := 3, ground := Go.Ground.data }], guard := none }) (v := ?_) rfl (Or.inl ⟨by rfl, ?_⟩) ?_; rotate_left; (focus (intro w hSw; (try dsimp only at hSw); go_simp; (try (with_reducible rfl)); done)); try simp only [Act.put, List.setIfInBounds_toArray, List.set_cons_zero, List.set_cons_succ])
            (refine wpL_calm (o := { dst := some 69, op := Go.Op.move (Go.Operand.tmp 11), type := 9, pos := "law.go:119", after := #[], guard := none }) (v := ?_) rfl (Or.inl ⟨by rfl, ?_⟩) ?_; rotate_left; (focus (intro w hSw; (try dsimp only at hSw); go_simp; (try (with_reducible rfl)); done)); try simp only [Act.put, List.setIfInBounds_toArray, List.set_cons_zero, List.set_cons_succ])
            (refine wpL_calm (o := { dst := some 70, op := Go.Op.binOp Go.BinOp.add 9 (Go.Operand.tmp 68) (Go.Operand.tmp 69) 9, type := 9, pos := "law.go:119", after := #[{ on := 4, ground := Go.Ground.data }, { on := 5, ground := Go.Ground.data }], guard := none }) (v := ?_) rfl (Or.inl ⟨by rfl, ?_⟩) ?_; rotate_left; (focus (intro w hSw; (try dsimp only at hSw); go_simp; (try (with_reducible rfl)); done)); try simp only [Act.put, List.setIfInBounds_toArray, List.set_cons_zero, List.set_cons_succ])
            (refine wpL_calm (o := { dst := some 71, op := Go.Op.move (Go.Operand.tmp 8), type := 9, pos := "law.go:119", after := #[], guard := none }) (v := ?_) rfl (Or.inl ⟨by rfl, ?_⟩) ?_; rotate_left; (focus (intro w hSw; (try dsimp only at hSw); go_simp; (try (with_reducible rfl)); done)); try simp only [Act.put, List.setIfInBounds_toArray, List.set_cons_zero, List.set_cons_succ])
            (refine wpL_calm (o := { dst := some 72, op := Go.Op.fieldAddr 32 (Go.Operand.tmp 10) 1, type := 0, pos := "law.go:119", after := #[], guard := none }) (v := ?_) rfl (Or.inl ⟨by rfl, ?_⟩) ?_; rotate_left; (focus (intro w hSw; (try dsimp only at hSw); go_simp; (try (with_reducible rfl)); done)); try simp only [Act.put, List.setIfInBounds_toArray, List.set_cons_zero, List.set_cons_succ])
            (refine wpL_calm (o := { dst := some 73, op := Go.Op.load 3 (Go.Operand.tmp 72), type := 3, pos := "law.go:119", after := #[{ on := 8, ground := Go.Ground.data }], guard := none }) (v := ?_) rfl (Or.inl ⟨by rfl, ?_⟩) ?_; rotate_left; (focus (intro w hSw; (try dsimp only at hSw); go_simp; (try (with_reducible rfl)); done)); try simp only [Act.put, List.setIfInBounds_toArray, List.set_cons_zero, List.set_cons_succ])
            (refine wpL_calm (o := { dst := some 74, op := Go.Op.binOp Go.BinOp.mul 3 (Go.Operand.const (Go.Value.int Go.IntKind.i64 48)) (Go.Operand.tmp 73) 3, type := 3, pos := "law.go:119", after := #[{ on := 9, ground := Go.Ground.data }], guard := none }) (v := ?_) rfl (Or.inl ⟨by rfl, ?_⟩) ?_; rotate_left; (focus (intro w hSw; (try dsimp only at hSw); go_simp; (try (with_reducible rfl)); done)); try simp only [Act.put, List.setIfInBounds_toArray, List.set_cons_zero, List.set_cons_succ])
            (refine wpL_calm (o := { dst := some 75, op := Go.Op.move (Go.Operand.tmp 11), type := 9, pos := "law.go:119", after := #[], guard := none }) (v := ?_) rfl (Or.inl ⟨by rfl, ?_⟩) ?_; rotate_left; (focus (intro w hSw; (try dsimp only at hSw); go_simp; (try (with_reducible rfl)); done)); try simp only [Act.put, List.setIfInBounds_toArray, List.set_cons_zero, List.set_cons_succ])
            (refine wpL_calm (o := { dst := some 76, op := Go.Op.call { callee := Go.Callee.builtin Go.Builtin.len, args := #[Go.Operand.tmp 75], argTypes := #[9] }, type := 3, pos := "law.go:119", after := #[{ on := 11, ground := Go.Ground.data }], guard := none }) (v := ?_) rfl (Or.inl ⟨by rfl, ?_⟩) ?_; rotate_left; (focus (intro w hSw; (try dsimp only at hSw); go_simp; (try (with_reducible rfl)); done)); try simp only [Act.put, List.setIfInBounds_toArray, List.set_cons_zero, List.set_cons_succ])
            (refine wpL_calm (o := { dst := some 77, op := Go.Op.binOp Go.BinOp.add 3 (Go.Operand.tmp 74) (Go.Operand.tmp 76) 3, type := 3, pos := "law.go:119", after := #[{ on := 10, ground := Go.Ground.data }, { on := 12, ground := Go.Ground.data }], guard := none }) (v := ?_) rfl (Or.inl ⟨by rfl, ?_⟩) ?_; rotate_left; (focus (intro w hSw; (try dsimp only at hSw); go_simp; (try (with_reducible rfl)); done)); try simp only [Act.put, List.setIfInBounds_toArray, List.set_cons_zero, List.set_cons_succ])
            (refine wpL_calm (o := { dst := some 78, op := Go.Op.slice 9 (Go.Operand.tmp 71) (some (Go.Operand.tmp 77)) none none, type := 9, pos := "law.go:119", after := #[{ on := 7, ground := Go.Ground.data }, { on := 13, ground := Go.Ground.data }], guard := none }) (v := ?_) rfl (Or.inl ⟨by rfl, ?_⟩) ?_; rotate_left; (focus (intro w hSw; (try dsimp only at hSw); go_simp; (try (with_reducible rfl)); done)); try simp only [Act.put, List.setIfInBounds_toArray, List.set_cons_zero, List.set_cons_succ])
            (refine wpL_calm (o := { dst := some 79, op := Go.Op.binOp Go.BinOp.add 9 (Go.Operand.tmp 70) (Go.Operand.tmp 78) 9, type := 9, pos := "law.go:119", after := #[{ on := 6, ground := Go.Ground.data }, { on := 14, ground := Go.Ground.data }], guard := none }) (v := ?_) rfl (Or.inl ⟨by rfl, ?_⟩) ?_; rotate_left; (focus (intro w hSw; (try dsimp only at hSw); go_simp; (try (with_reducible rfl)); done)); try simp only [Act.put, List.setIfInBounds_toArray, List.set_cons_zero, List.set_cons_succ])
            (refine wpL_calm (o := { dst := some 8, op := Go.Op.assign (Go.Operand.tmp 79), type := 9, pos := "law.go:119", after := #[{ on := 15, ground := Go.Ground.data }, { on := 0, ground := Go.Ground.phase }, { on := 1, ground := Go.Ground.phase }, { on := 2, ground := Go.Ground.phase }, { on := 3, ground := Go.Ground.phase }, { on := 4, ground := Go.Ground.phase }, { on := 5, ground := Go.Ground.phase }, { on := 6, ground := Go.Ground.phase }, { on := 7, ground := Go.Ground.phase }, { on := 8, ground := Go.Ground.phase }, { on := 9, ground := Go.Ground.phase }, { on := 10, ground := Go.Ground.phase }, { on := 11, ground := Go.Ground.phase }, { on := 12, ground := Go.Ground.phase }, { on := 13, ground := Go.Ground.phase }, { on := 14, ground := Go.Ground.phase }, { on := 15, ground := Go.Ground.phase }], guard := none }) (v := ?_) rfl (Or.inl ⟨by rfl, ?_⟩) ?_; rotate_left; (focus (intro w hSw; (try dsimp only at hSw); go_simp; (try (with_reducible rfl)); done)); try simp only [Act.put, List.setIfInBounds_toArray, List.set_cons_zero, List.set_cons_succ])
            refine wpL_nil ?_
            refine NoPanic.normal ?_
            have HD6 := Lib.hid (H6.out.below (Below.refl w6.heap.size w6).drew)
            have HBD := Lib.hid HB6.out.drew
            generalize w6.drew = w7 at *
            obtain ⟨NBT, hNBT⟩ : ∃ NBT, X1 ++ s ++ X2 = NBT := ⟨_, rfl⟩
            rw [hNBT] at hNBN
            try rw [hNBT]
            clear hX1 hX2 hHeld H6 HB6 j1 hNs ea eb hc1 hc2 hc2'
            have hF1 : (MT).F.length = 1 := by rw [HRN.out.F]; rfl
            have CR := Lib.hid (read_any 0 (K : Int) HD6.out HRN.out.ok (by omega) (by omega) (by omega) (by omega))
            rw [HRN.out.read, ← hNBN.out] at CR
            have CWD := Lib.hid (fun u (h : FlW u w.heap.size g OL6 CL6 (MT)) => worlds_any h)
            rw [hF1] at CWD
            have hn1 : (((1 : Nat)) : Int) = 1 := rfl
            rw [hn1] at CWD
            clear hn1
            go_wp2_with fail
            refine CR.out.mono ?_
            rintro e w8 ⟨rfl, b8⟩
            have H8 := Lib.hid (HD6.out.below b8)
            have HB8 := Lib.hid (HBD.out.trans (b8.mono HBD.out.size))
            clear CR b8
            go_wp2_with fail
            refine (CWD.out w8 H8.out).mono ?_
            rintro e w' ⟨rfl, rfl⟩
            clear CWD
            go_wp2_with fail
            go_roundw
            case rel => exact ⟨i + 1, MT, OL6, CL6, f, (now.take (48 * A) ++ (s.data.toList ++ now.drop (48 * A + 48 * kk))), NBT, by go_num, by omega, by omega, rfl, hNBN, H8, HRN, hTT, hCT, HB8⟩
            case measure => simp [intOf]; omega
        · as_aux_lemma =>
          have CW := Lib.hid (write_no xa s H5.out HR.out.ok.n64 (by omega) hr)
          obtain ⟨r, hrr⟩ : ∃ r, refF M.n xa (wholeN s.size : Int) = r := ⟨_, rfl⟩
          rw [hrr] at CW hr
          have hr1 : (r == 0) = false := by simpa using hr
          have hTT : M.T.length ≤ 1 + 100 * (i + 1) := by omega
          have hCT : M.C.length ≤ i + 1 := by omega
          clear hrr hr hwn
          rcases hk012 with rfl | rfl | rfl
          all_goals
            go_wp2_with fail
            refine CW.out.mono ?_
            rintro e w' ⟨rfl, rfl⟩
            have hF1 : (M).F.length = 1 := by rw [HR.out.F]; rfl
            have CR := Lib.hid (read_any 0 (K : Int) H5.out HR.out.ok (by omega) (by omega) (by omega) (by omega))
            rw [HR.out.read, ← hNB.out] at CR
            have CWD := Lib.hid (fun u (h : FlW u w.heap.size g OL CL (M)) => worlds_any h)
            rw [hF1] at CWD
            have hn1 : (((1 : Nat)) : Int) = 1 := rfl
            rw [hn1] at CWD
            clear hn1
            go_wp2_with fail
            refine CR.out.mono ?_
            rintro e w8 ⟨rfl, b8⟩
            have H8 := Lib.hid (H5.out.below b8)
            have HB8 := Lib.hid (HB5.out.trans (b8.mono HB5.out.size))
            clear CR b8
            go_wp2_with fail
            refine (CWD.out w8 H8.out).mono ?_
            rintro e w' ⟨rfl, rfl⟩
            clear CWD
            go_wp2_with fail
            go_roundw
            case rel => exact ⟨i + 1, M, OL, CL, f, now, NB, by go_num, by omega, by omega, rfl, hNB, H8, HR, hTT, hCT, HB8⟩
            case measure => simp [intOf]; omega
      · as_aux_lemma =>
        have h0 : (xk == 0) = false := by simp; omega
        have h1 : (xk == 1) = false := by simp; omega
        have h2 : (xk == 2) = false := by simp; omega
        have hTT0 : M.T.length ≤ 1 + 100 * (i + 1) := by omega
        have hCT0 : M.C.length ≤ i + 1 := by omega
        by_cases h3 : xk = 3
        · as_aux_lemma =>
          subst h3
          clear h0 h1 h2 hk012
          by_cases hr : refF M.n xa xn = 0
          · as_aux_lemma =>
            have CW := Lib.hid (discard_yes xa xn H5.out HR.out.ok.n64 hr (by omega))
            obtain ⟨p1, p2, p3⟩ := refF_ok hr
            obtain ⟨A, rfl⟩ : ∃ A : Nat, xa = (A : Int) := ⟨xa.toNat, by omega⟩
            obtain ⟨kk, rfl⟩ : ∃ kk : Nat, xn = (kk : Int) := ⟨xn.toNat, by omega⟩
            rw [show ((A : Int)).toNat = A by omega, show ((kk : Int)).toNat = kk by omega] at CW
            rw [HR.out.n] at p3
            have HRN := Lib.hid (HR.out.disc (a := A) (k := kk) (by omega) (by omega))
            have CZ2 := Lib.hid (fun w => zeros_anyF (48 * kk) w (by omega))
            obtain ⟨MT, hMT⟩ : ∃ MT : Fl, ({ M with C := M.C ++ [(A, List.replicate kk 0)] } : Fl) = MT := ⟨_, rfl⟩
            have hTT : MT.T.length ≤ 1 + 100 * (i + 1) := by rw [← hMT]; exact hTT0
            have hCT : MT.C.length ≤ i + 1 := by rw [← hMT]; show (M.C ++ [_]).length ≤ _; rw [List.length_append]; simp; omega
            rw [hMT] at CW HRN
            have hNs : NB.size = q := by rw [hNB.out, bytes_size, HR.out.len]; exact hq.out
            have hqK := hq.out
            have hwa : ∀ n : Nat, n ≤ 100000 → IntKind.i64.wrap (n : Int) = (n : Int) := fun n hn => by rw [IntKind.wrap_i64]; omega
            obtain ⟨qa, hqa⟩ : ∃ qa, 48 * A = qa := ⟨_, rfl⟩
            obtain ⟨qk, hqk⟩ : ∃ qk, 48 * kk = qk := ⟨_, rfl⟩
            have ea : (48 : Int) * (A : Int) = (qa : Int) := by omega
            have ek : (48 : Int) * (kk : Int) = (qk : Int) := by omega
            obtain ⟨qb, hqb⟩ : ∃ qb, qa + qk = qb := ⟨_, rfl⟩
            have eb : (qa : Int) + (qk : Int) = (qb : Int) := by omega
            have l1 : (qa : Int) ≤ (q : Int) := by omega
            have l2 : (qb : Int) ≤ (q : Int) := by omega
            have wa := hwa qa (by omega)
            have wk := hwa qk (by omega)
            have wb := hwa qb (by omega)
            clear hwa
            have l0 : (0 : Int) ≤ (qa : Int) := by omega
            have l3 : (0 : Int) ≤ (qb : Int) := by omega
            obtain ⟨ZB, hZB⟩ : ∃ ZB : ByteArray, (⟨(List.replicate (48 * kk) (0 : UInt8)).toArray⟩ : ByteArray) = ZB := ⟨_, rfl⟩
            rw [hZB, hqk] at CZ2
            have hZs : ZB.size = qk := by rw [← hZB, bytes_size, List.length_replicate]; exact hqk
            obtain ⟨X1, hX1⟩ : ∃ X1, NB.extract 0 qa = X1 := ⟨_, rfl⟩
            obtain ⟨X2, hX2⟩ : ∃ X2, NB.extract qb q = X2 := ⟨_, rfl⟩
            have hx1 : X1.size = qa := by rw [← hX1, ByteArray.size_extract]; omega
            have hx2 : X2.size ≤ 48 * K := by rw [← hX2, ByteArray.size_extract]; omega
            have hX2' : NB.extract qb NB.size = X2 := by rw [hNs]; exact hX2
            have hc1 : (9223372036854775807 < X1.size + ZB.size) = False := by simp; omega
            have hc2 : (9223372036854775807 < (X1 ++ ZB).size + X2.size) = False := by rw [ByteArray.size_append]; simp; omega
            have hc2' : (9223372036854775807 < X1.size + ZB.size + X2.size) = False := by simp; omega
            have hNBN : Hid (X1 ++ ZB ++ X2 = ⟨(now.take (48 * A) ++ (List.replicate (48 * kk) 0 ++ now.drop (48 * A + 48 * kk))).toArray⟩) := Lib.hid (by rw [← hX1, ← hX2', hNB.out]; have := cat_now now ZB A kk qa qb (by omega) (by omega); rw [this, ← hZB])
            clear hMT p1 p2 p3 hr hqa hqb hqk hX2' hqK hx1 hx2 hZB hZs
            go_wp2_with fail
            refine CW.out.mono ?_
            rintro e w6 ⟨rfl, OL6, CL6, f6, kq6, _, _⟩
            have H6 := Lib.hid f6
            have HS6 := Lib.hid kq6.below.size
            have HB6 := Lib.hid (HB5.out.trans kq6.below)
            have j1 : w6.cell? ⟨gx, 1, none⟩ = some (.int .i64 (A : Int)) := (kq6.other_cell hgx5 HGX.out).trans k1
            have j2 : w6.cell? ⟨gx, 2, none⟩ = some (.int .i64 (kk : Int)) := (kq6.other_cell hgx5 HGX.out).trans k2
            clear CW f6 kq6
            have h6l : gx < w6.drew.heap.size := Nat.lt_of_lt_of_le hgx5 HS6.out
            have HD6 := Lib.hid (H6.out.below (Below.refl w6.heap.size w6).drew)
            have HBD := Lib.hid HB6.out.drew
            have i1 : w6.drew.cell? ⟨gx, 1, none⟩ = some (.int .i64 (A : Int)) := j1
            have i2 : w6.drew.cell? ⟨gx, 2, none⟩ = some (.int .i64 (kk : Int)) := j2
            go_upto_region 19 with fail
            refine wp_region_lin_all (S := (fun w' => w'.cell? ⟨gx, 1, none⟩ = some (.int .i64 (A : Int)) ∧ w'.cell? ⟨gx, 2, none⟩ = some (.int .i64 (kk : Int)))) [(0, true), (1, true), (2, true), (3, true), (4, true), (5, true), (6, true), (7, true), (10, true), (11, true), (12, true), (13, true), (14, true), (15, true), (16, true), (17, true), (18, true), (8, false), (9, true), (19, true), (20, true)] (by kernel_rfl) (by kernel_rfl) rfl (by kernel_rfl) ?_ (fun hHeld => ?_)
            · (try dsimp only); exact ⟨j1, j2⟩
            generalize World.drew w6 = w7 at *
            (refine wpL_calm (o := { dst := some 89, op := Go.Op.move (Go.Operand.tmp 8), type := 9, pos := "law.go:123", after := #[], guard := none }) (v := ?_) rfl (Or.inl ⟨by rfl, ?_⟩) ?_; rotate_left; (focus (intro w hSw; (try dsimp only at hSw); go_simp; (try (with_reducible rfl)); done)); try simp only [Act.put, List.setIfInBounds_toArray, List.set_cons_zero, List.set_cons_succ])
            (refine wpL_calm (o := { dst := some 90, op := Go.Op.fieldAddr 32 (Go.Operand.tmp 10) 1, type := 0, pos := "law.go:123", after := #[], guard := none }) (v := ?_) rfl (Or.inl ⟨by rfl, ?_⟩) ?_; rotate_left; (focus (intro w hSw; (try dsimp only at hSw); go_simp; (try (with_reducible rfl)); done)); try simp only [Act.put, List.setIfInBounds_toArray, List.set_cons_zero, List.set_cons_succ])
            (refine wpL_calm (o := { dst := some 91, op := Go.Op.load 3 (Go.Operand.tmp 90), type := 3, pos := "law.go:123", after := #[{ on := 1, ground := Go.Ground.data }], guard := none }) (v := ?_) rfl (Or.inl ⟨by rfl, ?_⟩) ?_; rotate_left; (focus (intro w hSw; (try dsimp only at hSw); go_simp; (try (with_reducible rfl)); done)); try simp only [Act.put, List.setIfInBounds_toArray, List.set_cons_zero, List.set_cons_succ])
            (refine wpL_calm (o := { dst := some 92, op := Go.Op.binOp Go.BinOp.mul 3 (Go.Operand.const (Go.Value.int Go.IntKind.i64 48)) (Go.Operand.tmp 91) 3, type := 3, pos := "law.go:123", after := #[{ on := 2, ground := Go.Ground.data }], guard := none }) (v := ?_) rfl (Or.inl ⟨by rfl, ?_⟩) ?_; rotate_left; (focus (intro w hSw; (try dsimp only at hSw); go_simp; (try (with_reducible rfl)); done)); try simp only [Act.put, List.setIfInBounds_toArray, List.set_cons_zero, List.set_cons_succ])
            (refine wpL_calm (o := { dst := some 93, op := Go.Op.slice 9 (Go.Operand.tmp 89) none (some (Go.Operand.tmp 92)) none, type := 9, pos := "law.go:123", after := #[{ on := 0, ground := Go.Ground.data }, { on := 3, ground := Go.Ground.data }], guard := none }) (v := ?_) rfl (Or.inl ⟨by rfl, ?_⟩) ?_; rotate_left; (focus (intro w hSw; (try dsimp only at hSw); go_simp; (try (with_reducible rfl)); done)); try simp only [Act.put, List.setIfInBounds_toArray, List.set_cons_zero, List.set_cons_succ])
            (refine wpL_calm (o := { dst := some 94, op := Go.Op.fieldAddr 32 (Go.Operand.tmp 10) 2, type := 0, pos := "law.go:123", after := #[], guard := none }) (v := ?_) rfl (Or.inl ⟨by rfl, ?_⟩) ?_; rotate_left; (focus (intro w hSw; (try dsimp only at hSw); go_simp; (try (with_reducible rfl)); done)); try simp only [Act.put, List.setIfInBounds_toArray, List.set_cons_zero, List.set_cons_succ])
            (refine wpL_calm (o := { dst := some 95, op := Go.Op.load 3 (Go.Operand.tmp 94), type := 3, pos := "law.go:123", after := #[{ on := 5, ground := Go.Ground.data }], guard := none }) (v := ?_) rfl (Or.inl ⟨by rfl, ?_⟩) ?_; rotate_left; (focus (intro w hSw; (try dsimp only at hSw); go_simp; (try (with_reducible rfl)); done)); try simp only [Act.put, List.setIfInBounds_toArray, List.set_cons_zero, List.set_cons_succ])
            (refine wpL_calm (o := { dst := some 96, op := Go.Op.binOp Go.BinOp.mul 3 (Go.Operand.const (Go.Value.int Go.IntKind.i64 48)) (Go.Operand.tmp 95) 3, type := 3, pos := "law.go:123", after := #[{ on := 6, ground := Go.Ground.data }], guard := none }) (v := ?_) rfl (Or.inl ⟨by rfl, ?_⟩) ?_; rotate_left; (focus (intro w hSw; (try dsimp only at hSw); go_simp; (try (with_reducible rfl)); done)); try simp only [Act.put, List.setIfInBounds_toArray, List.set_cons_zero, List.set_cons_succ])
            (refine wpL_calm (o := { dst := some 99, op := Go.Op.move (Go.Operand.tmp 8), type := 9, pos := "law.go:123", after := #[], guard := none }) (v := ?_) rfl (Or.inl ⟨by rfl, ?_⟩) ?_; rotate_left; (focus (intro w hSw; (try dsimp only at hSw); go_simp; (try (with_reducible rfl)); done)); try simp only [Act.put, List.setIfInBounds_toArray, List.set_cons_zero, List.set_cons_succ])
            (refine wpL_calm (o := { dst := some 100, op := Go.Op.fieldAddr 32 (Go.Operand.tmp 10) 1, type := 0, pos := "law.go:123", after := #[], guard := none }) (v := ?_) rfl (Or.inl ⟨by rfl, ?_⟩) ?_; rotate_left; (focus (intro w hSw; (try dsimp only at hSw); go_simp; (try (with_reducible rfl)); done)); try simp only [Act.put, List.setIfInBounds_toArray, List.set_cons_zero, List.set_cons_succ])
            (refine wpL_calm (o := { dst := some 101, op := Go.Op.load 3 (Go.Operand.tmp 100), type := 3, pos := "law.go:123", after := #[{ on := 11, ground := Go.Ground.data }], guard := none }) (v := ?_) rfl (Or.inl ⟨by rfl, ?_⟩) ?_; rotate_left; (focus (intro w hSw; (try dsimp only at hSw); go_simp; (try (with_reducible rfl)); done)); try simp only [Act.put, List.setIfInBounds_toArray, List.set_cons_zero, List.set_cons_succ])
            (refine wpL_calm (o := { dst := some 102, op := Go.Op.binOp Go.BinOp.mul 3 (Go.Operand.const (Go.Value.int Go.IntKind.i64 48)) (Go.Operand.tmp 101) 3, type := 3, pos := "law.go:123", after := #[{ on := 12, ground := Go.Ground.data }], guard := none }) (v := ?_) rfl (Or.inl ⟨by rfl, ?_⟩) ?_; rotate_left; (focus (intro w hSw; (try dsimp only at hSw); go_simp; (try (with_reducible rfl)); done)); try simp only [Act.put, List.setIfInBounds_toArray, List.set_cons_zero, List.set_cons_succ])
            (refine wpL_calm (o := { dst := some 103, op := Go.Op.fieldAddr 32 (Go.Operand.tmp 10) 2, type := 0, pos := "law.go:123", after := #[], guard := none }) (v := ?_) rfl (Or.inl ⟨by rfl, ?_⟩) ?_; rotate_left; (focus (intro w hSw; (try dsimp only at hSw); go_simp; (try (with_reducible rfl)); done)); try simp only [Act.put, List.setIfInBounds_toArray, List.set_cons_zero, List.set_cons_succ])
            (refine wpL_calm (o := { dst := some 104, op := Go.Op.load 3 (Go.Operand.tmp 103), type := 3, pos := "law.go:123", after := #[{ on := 14, ground := Go.Ground.data }], guard := none }) (v := ?_) rfl (Or.inl ⟨by rfl, ?_⟩) ?_; rotate_left; (focus (intro w hSw; (try dsimp only at hSw); go_simp; (try (with_reducible rfl)); done)); try simp only [Act.put, List.setIfInBounds_toArray, List.set_cons_zero, List.set_cons_succ])
            (refine wpL_calm (o := { dst := some 105, op := Go.Op.binOp Go.BinOp.mul 3 (Go.Operand.const (Go.Value.int Go.IntKind.i64 48)) (Go.Operand.tmp 104) 3, type := 3, pos := "law.go:123", after := #[{ on := 15, ground := Go.Ground.data }], guard := none }) (v := ?_) rfl (Or.inl ⟨by rfl, ?_⟩) ?_; rotate_left; (focus (intro w hSw; (try dsimp only at hSw); go_simp; (try (with_reducible rfl)); done)); try simp only [Act.put, List.setIfInBounds_toArray, List.set_cons_zero, List.set_cons_succ])
            (refine wpL_calm (o := { dst := some 106, op := Go.Op.binOp Go.BinOp.add 3 (Go.Operand.tmp 102) (Go.Operand.tmp 105) 3, type := 3, pos := "law.go:123", after := #[{ on := 13, ground := Go.Ground.data }, { on := 16, ground := Go.Ground.data }], guard := none }) (v := ?_) rfl (Or.inl ⟨by rfl, ?_⟩) ?_; rotate_left; (focus (intro w hSw; (try dsimp only at hSw); go_simp; (try (with_reducible rfl)); done)); try simp only [Act.put, List.setIfInBounds_toArray, List.set_cons_zero, List.set_cons_succ])
            (refine wpL_calm (o := { dst := some 107, op := Go.Op.slice 9 (Go.Operand.tmp 99) (some (Go.Operand.tmp 106)) none none, type := 9, pos := "law.go:123", after := #[{ on := 10, ground := Go.Ground.data }, { on := 17, ground := Go.Ground.data }], guard := none }) (v := ?_) rfl (Or.inl ⟨by rfl, ?_⟩) ?_; rotate_left; (focus (intro w hSw; (try dsimp only at hSw); go_simp; (try (with_reducible rfl)); done)); try simp only [Act.put, List.setIfInBounds_toArray, List.set_cons_zero, List.set_cons_succ])
            refine wpL_loud1 (o := { dst := some 97, op := Go.Op.call { callee := Go.Callee.value (Go.Operand.func 14), args := #[Go.Operand.tmp 96], argTypes := #[3] }, type := 9, pos := "law.go:123", after := #[{ on := 7, ground := Go.Ground.data }], guard := none }) rfl (fun K hK => ?_)
            (go_simp; go_at_call 14; refine (CZ2.out _).mono ?_; rintro e w9 ⟨rfl, b9⟩)
            try go_wp2_with fail
            refine hK.out _ _ ?_ (fun hHeld => ?_)
            · (try dsimp only); exact ⟨(b9.cell (p := ⟨gx, 1, none⟩) h6l).trans i1, (b9.cell (p := ⟨gx, 2, none⟩) h6l).trans i2⟩
            clear hK K
            try simp only [Act.put, List.setIfInBounds_toArray, List.set_cons_zero, List.set_cons_succ]
            (refine wpL_calm (o := { dst := some 98, op := Go.Op.binOp Go.BinOp.add 9 (Go.Operand.tmp 93) (Go.Operand.tmp 97) 9, type := 9, pos := "law.go:123", after := #[{ on := 4, ground := Go.Ground.data }, { on := 8, ground := Go.Ground.data }], guard := none }) (v := ?_) rfl (Or.inl ⟨by rfl, ?_⟩) ?_; rotate_left; (focus (intro w hSw; (try dsimp only at hSw); go_simp; (try (with_reducible rfl)); done)); try simp only [Act.put, List.setIfInBounds_toArray, List.set_cons_zero, List.set_cons_succ])
            (refine wpL_calm (o := { dst := some 108, op := Go.Op.binOp Go.BinOp.add 9 (Go.Operand.tmp 98) (Go.Operand.tmp 107) 9, type := 9, pos := "law.go:123", after := #[{ on := 9, ground := Go.Ground.data }, { on := 18, ground := Go.Ground.data }], guard := none }) (v := ?_) rfl (Or.inl ⟨by rfl, ?_⟩) ?_; rotate_left; (focus (intro w hSw; (try dsimp only at hSw); go_simp; (try (with_reducible rfl)); done)); try simp only [Act.put, List.setIfInBounds_toArray, List.set_cons_zero, List.set_cons_succ])
            (refine wpL_calm (o := { dst := some 8, op := Go.Op.assign (Go.Operand.tmp 108), type := 9, pos := "law.go:123", after := #[{ on := 19, ground := Go.Ground.data }, { on := 8, ground := Go.Ground.chain }, { on := 0, ground := Go.Ground.phase }, { on := 1, ground := Go.Ground.phase }, { on := 2, ground := Go.Ground.phase }, { on := 3, ground := Go.Ground.phase }, { on := 4, ground := Go.Ground.phase }, { on := 5, ground := Go.Ground.phase }, { on := 6, ground := Go.Ground.phase }, { on := 7, ground := Go.Ground.phase }, { on := 8, ground := Go.Ground.phase }, { on := 9, ground := Go.Ground.phase }, { on := 10, ground := Go.Ground.phase }, { on := 11, ground := Go.Ground.phase }, { on := 12, ground := Go.Ground.phase }, { on := 13, ground := Go.Ground.phase }, { on := 14, ground := Go.Ground.phase }, { on := 15, ground := Go.Ground.phase }, { on := 16, ground := Go.Ground.phase }, { on := 17, ground := Go.Ground.phase }, { on := 18, ground := Go.Ground.phase }, { on := 19, ground := Go.Ground.phase }], guard := none }) (v := ?_) rfl (Or.inl ⟨by rfl, ?_⟩) ?_; rotate_left; (focus (intro w hSw; (try dsimp only at hSw); go_simp; (try (with_reducible rfl)); done)); try simp only [Act.put, List.setIfInBounds_toArray, List.set_cons_zero, List.set_cons_succ])
            refine wpL_nil ?_
            refine NoPanic.normal ?_
            have H9 := Lib.hid (HD6.out.below b9)
            have HB9 := Lib.hid (HBD.out.trans (b9.mono HBD.out.size))
            obtain ⟨NBT, hNBT⟩ : ∃ NBT, X1 ++ ZB ++ X2 = NBT := ⟨_, rfl⟩
            rw [hNBT] at hNBN
            try rw [hNBT]
            clear hX1 hX2 hHeld H6 HB6 j1 j2 i1 i2 hNs ea eb ek hc1 hc2 hc2' b9 HD6 HBD
            have hF1 : (MT).F.length = 1 := by rw [HRN.out.F]; rfl
            have CR := Lib.hid (read_any 0 (K : Int) H9.out HRN.out.ok (by omega) (by omega) (by omega) (by omega))
            rw [HRN.out.read, ← hNBN.out] at CR
            have CWD := Lib.hid (fun u (h : FlW u w.heap.size g OL6 CL6 (MT)) => worlds_any h)
            rw [hF1] at CWD
            have hn1 : (((1 : Nat)) : Int) = 1 := rfl
            rw [hn1] at CWD
            clear hn1
            go_wp2_with fail
            refine CR.out.mono ?_
            rintro e w8 ⟨rfl, b8⟩
            have H8 := Lib.hid (H9.out.below b8)
            have HB8 := Lib.hid (HB9.out.trans (b8.mono HB9.out.size))
            clear CR b8
            go_wp2_with fail
            refine (CWD.out w8 H8.out).mono ?_
            rintro e w' ⟨rfl, rfl⟩
            clear CWD
            go_wp2_with fail
            go_roundw
            case rel => exact ⟨i + 1, MT, OL6, CL6, f, (now.take (48 * A) ++ (List.replicate (48 * kk) 0 ++ now.drop (48 * A + 48 * kk))), NBT, by go_num, by omega, by omega, rfl, hNBN, H8, HRN, hTT, hCT, HB8⟩
            case measure => simp [intOf]; omega
          · as_aux_lemma =>
            have CW := Lib.hid (discard_no xa xn H5.out HR.out.ok.n64 ok3.2 hr)
            obtain ⟨r, hrr⟩ : ∃ r, refF M.n xa xn = r := ⟨_, rfl⟩
            rw [hrr] at CW hr
            have hr1 : (r == 0) = false := by simpa using hr
            have hTT : M.T.length ≤ 1 + 100 * (i + 1) := by omega
            have hCT : M.C.length ≤ i + 1 := by omega
            clear hrr hr
            go_wp2_with fail
            refine CW.out.mono ?_
            rintro e w' ⟨rfl, rfl⟩
            have hF1 : (M).F.length = 1 := by rw [HR.out.F]; rfl
            have CR := Lib.hid (read_any 0 (K : Int) H5.out HR.out.ok (by omega) (by omega) (by omega) (by omega))
            rw [HR.out.read, ← hNB.out] at CR
            have CWD := Lib.hid (fun u (h : FlW u w.heap.size g OL CL (M)) => worlds_any h)
            rw [hF1] at CWD
            have hn1 : (((1 : Nat)) : Int) = 1 := rfl
            rw [hn1] at CWD
            clear hn1
            go_wp2_with fail
            refine CR.out.mono ?_
            rintro e w8 ⟨rfl, b8⟩
            have H8 := Lib.hid (H5.out.below b8)
            have HB8 := Lib.hid (HB5.out.trans (b8.mono HB5.out.size))
            clear CR b8
            go_wp2_with fail
            refine (CWD.out w8 H8.out).mono ?_
            rintro e w' ⟨rfl, rfl⟩
            clear CWD
            go_wp2_with fail
            go_roundw
            case rel => exact ⟨i + 1, M, OL, CL, f, now, NB, by go_num, by omega, by omega, rfl, hNB, H8, HR, hTT, hCT, HB8⟩
            case measure => simp [intOf]; omega
        · as_aux_lemma =>
          have h3' : (xk == 3) = false := by simpa using h3
          by_cases h5 : xk = 5
          · as_aux_lemma =>
            subst h5
            clear h0 h1 h2 h3 h3' hk012
            have CW := Lib.hid (saw_any xa s H5.out HR.out.ok.n64 (by omega) HR.out.ok.ch (by omega) HR.out.ok.f64 (by rw [HR.out.F]; simp))
            have HRN := Lib.hid (HR.out.saw xa s)
            obtain ⟨e3, e4⟩ := sawM_len M xa s
            obtain ⟨MT, hMT⟩ : ∃ MT, sawM M xa s = MT := ⟨_, rfl⟩
            rw [hMT] at CW HRN e3 e4
            have hTT : MT.T.length ≤ 1 + 100 * (i + 1) := by rw [e3]; exact hTT0
            have hCT : MT.C.length ≤ i + 1 := by rw [e4]; exact hCT0
            clear hMT e3 e4
            generalize sawB M xa s = sb at *
            go_wp2_with fail
            refine CW.out.mono ?_
            rintro e w6 ⟨rfl, OL6, CL6, f6, kq6, _, _⟩
            have H6 := Lib.hid f6
            have HB6 := Lib.hid (HB5.out.trans kq6.below)
            clear CW f6 kq6
            have hF1 : (MT).F.length = 1 := by rw [HRN.out.F]; rfl
            have CR := Lib.hid (read_any 0 (K : Int) H6.out HRN.out.ok (by omega) (by omega) (by omega) (by omega))
            rw [HRN.out.read, ← hNB.out] at CR
            have CWD := Lib.hid (fun u (h : FlW u w.heap.size g OL6 CL6 (MT)) => worlds_any h)
            rw [hF1] at CWD
            have hn1 : (((1 : Nat)) : Int) = 1 := rfl
            rw [hn1] at CWD
            clear hn1
            go_wp2_with fail
            refine CR.out.mono ?_
            rintro e w8 ⟨rfl, b8⟩
            have H8 := Lib.hid (H6.out.below b8)
            have HB8 := Lib.hid (HB6.out.trans (b8.mono HB6.out.size))
            clear CR b8
            go_wp2_with fail
            refine (CWD.out w8 H8.out).mono ?_
            rintro e w' ⟨rfl, rfl⟩
            clear CWD
            go_wp2_with fail
            go_roundw
            case rel => exact ⟨i + 1, MT, OL6, CL6, f, now, NB, by go_num, by omega, by omega, rfl, hNB, H8, HRN, hTT, hCT, HB8⟩
            case measure => simp [intOf]; omega
          · as_aux_lemma =>
            have h5' : (xk == 5) = false := by simpa using h5
            by_cases h6 : xk = 6
            · as_aux_lemma =>
              subst h6
              clear h0 h1 h2 h3 h3' h5 h5' hk012
              have CW := Lib.hid (safe_any H5.out HR.out.ok.n64 HR.out.ok.ch HR.out.ok.f64 (by omega) (by rw [HR.out.F]; simp))
              have HRN := Lib.hid HR.out.safe
              obtain ⟨MT, hMT⟩ : ∃ MT : Fl, ({ M with F := M.F.map (foldC M.C), C := [] } : Fl) = MT := ⟨_, rfl⟩
              have hTT : MT.T.length ≤ 1 + 100 * (i + 1) := by rw [← hMT]; exact hTT0
              have hCT : MT.C.length ≤ i + 1 := by rw [← hMT]; exact Nat.zero_le _
              rw [hMT] at CW HRN
              clear hMT
              generalize foldC M.C f = fT at *
              go_wp2_with fail
              refine CW.out.mono ?_
              rintro e w6 ⟨rfl, OL6, CL6, f6, kq6, _, _⟩
              have H6 := Lib.hid f6
              have HB6 := Lib.hid (HB5.out.trans kq6.below)
              clear CW f6 kq6
              have hF1 : (MT).F.length = 1 := by rw [HRN.out.F]; rfl
              have CR := Lib.hid (read_any 0 (K : Int) H6.out HRN.out.ok (by omega) (by omega) (by omega) (by omega))
              rw [HRN.out.read, ← hNB.out] at CR
              have CWD := Lib.hid (fun u (h : FlW u w.heap.size g OL6 CL6 (MT)) => worlds_any h)
              rw [hF1] at CWD
              have hn1 : (((1 : Nat)) : Int) = 1 := rfl
              rw [hn1] at CWD
              clear hn1
              go_wp2_with fail
              refine CR.out.mono ?_
              rintro e w8 ⟨rfl, b8⟩
              have H8 := Lib.hid (H6.out.below b8)
              have HB8 := Lib.hid (HB6.out.trans (b8.mono HB6.out.size))
              clear CR b8
              go_wp2_with fail
              refine (CWD.out w8 H8.out).mono ?_
              rintro e w' ⟨rfl, rfl⟩
              clear CWD
              go_wp2_with fail
              go_roundw
              case rel => exact ⟨i + 1, MT, OL6, CL6, fT, now, NB, by go_num, by omega, by omega, rfl, hNB, H8, HRN, hTT, hCT, HB8⟩
              case measure => simp [intOf]; omega
            · as_aux_lemma =>
              have h6' : (xk == 6) = false := by simpa using h6
              have hTT := hTT0
              have hCT := hCT0
              clear h3 h5 h6 hk012
              have hF1 : (M).F.length = 1 := by rw [HR.out.F]; rfl
              have CR := Lib.hid (read_any 0 (K : Int) H5.out HR.out.ok (by omega) (by omega) (by omega) (by omega))
              rw [HR.out.read, ← hNB.out] at CR
              have CWD := Lib.hid (fun u (h : FlW u w.heap.size g OL CL (M)) => worlds_any h)
              rw [hF1] at CWD
              have hn1 : (((1 : Nat)) : Int) = 1 := rfl
              rw [hn1] at CWD
              clear hn1
              go_wp2_with fail
              refine CR.out.mono ?_
              rintro e w8 ⟨rfl, b8⟩
              have H8 := Lib.hid (H5.out.below b8)
              have HB8 := Lib.hid (HB5.out.trans (b8.mono HB5.out.size))
              clear CR b8
              go_wp2_with fail
              refine (CWD.out w8 H8.out).mono ?_
              rintro e w' ⟨rfl, rfl⟩
              clear CWD
              go_wp2_with fail
              go_roundw
              case rel => exact ⟨i + 1, M, OL, CL, f, now, NB, by go_num, by omega, by omega, rfl, hNB, H8, HR, hTT, hCT, HB8⟩
              case measure => simp [intOf]; omega
    · as_aux_lemma =>
      by_cases g1 : (i : Int) < (nl : Int)
      · have g2 : ¬ (i : Int) < 40 := fun h => hgo ⟨g1, h⟩
        go_wp2_with fail
        go_ret
        exact ⟨rfl, HB.out⟩
      · go_wp2_with fail
        go_ret
        exact ⟨rfl, HB.out⟩
section
variable {H : Type} {enc : TypeId × Value → H}
theorem flatOne_walk (a0 : Int) (v : Value) (d : DataW H) (p : List MemPlace) (w : World) (hz : (Lit.int .u8 a0).wf = true) (hv : ∃ a len cap, v = .slice a len cap) (h : DataW.Trod enc Try.prog w 0 (fun _ => true) true 22 v d p) :
    Calls Try.prog 4 #[.int .u8 a0, v] w fun e w' => e = .returned (.bool true) ∧ Below w.heap.size w w' := by
  obtain ⟨ao, cap, L, rfl, h1, h2, h3, h4⟩ := open_af hv h
  have hzb : 0 ≤ a0 ∧ a0 ≤ 255 := by
    have h2 : IntKind.u8.min ≤ a0 ∧ a0 ≤ IntKind.u8.max := by simpa [Lit.wf] using hz
    rw [show IntKind.u8.min = 0 from by decide, show IntKind.u8.max = 255 from by decide] at h2
    exact h2
  obtain ⟨q, rfl⟩ : ∃ q : Nat, a0 = (q : Int) := ⟨a0.toNat, by omega⟩
  exact flatOne_any q ao cap L w (by omega) h3 (by omega) h4
end
end Go.Proofs.Ytaemnelfnopjdaa
