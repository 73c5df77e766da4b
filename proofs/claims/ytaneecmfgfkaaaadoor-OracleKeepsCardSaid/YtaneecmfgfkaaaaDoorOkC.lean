/- Forget, walked (layer 6). -/
import Derived.Test.YtaneecmfgfkaaaaDoorOkB
namespace Go.Proofs.YtaneecmfgfkaaaaDoor
open Go.RowKit Go.Deep Go.Maps
set_option linter.unusedVariables false
set_option linter.unusedSimpArgs false
theorem strV_at (l : List (List UInt8)) (i : Nat) (h : i < l.length) : (strV l)[i]? = some (Value.string ⟨(l[i]).toArray⟩) := by unfold strV; rw [List.getElem?_map, List.getElem?_eq_getElem h]; rfl
theorem strV_one (l : List (List UInt8)) : ∀ u ∈ strV l, u.oneCell' = true := fun u hu => by
  unfold strV at hu
  obtain ⟨x, _, rfl⟩ := List.mem_map.1 hu
  rfl
theorem bv_oneK (l : List UInt8) : ∀ u ∈ bv l, u.oneCell' = true := fun u hu => by
  unfold bv at hu
  obtain ⟨b, _, rfl⟩ := List.mem_map.1 hu
  rfl
theorem digV_one (l : List (List UInt8)) : ∀ u ∈ digV l, u.oneCell' = true := fun u hu => by
  unfold digV at hu
  obtain ⟨x, _, hx⟩ := List.mem_flatMap.1 hu
  exact bv_oneK _ u hx
/-- The cells behind the cut. -/
theorem own_tail {w : World} {base size n1 n2 : Nat} {e : TypeId} {g cap : Nat} {xs ys zs : List Value} (h : w.ownsRow base e size (.slice (some ⟨g, 0, none⟩) (n1 + 1 + n2) cap) (n1 + 1 + n2) (xs ++ ys ++ zs)) (hx : xs.length = n1 * size) (hy : ys.length = size) (hz : zs.length = n2 * size) :
    (∀ j u, zs[j]? = some u → w.cell? ((⟨g, (n1 + 1) * size, none⟩ : Addr).add j) = some u) ∧ ∀ j, j < zs.length → (w.cell? ⟨g, 0 + n1 * size + j, none⟩).isSome = true ∧ w.frozen? ⟨g, 0 + n1 * size + j, none⟩ = false := by
  have hl : (xs ++ ys ++ zs).length = (n1 + 1 + n2) * size := h.1
  have e2 : (n1 + 1 + n2) * size = n1 * size + size + n2 * size := by rw [Nat.add_mul, Nat.add_mul, Nat.one_mul]
  have e3 : (n1 + 1) * size = n1 * size + size := by rw [Nat.add_mul, Nat.one_mul]
  refine ⟨fun j u hu => ?_, fun j hj => ?_⟩
  · have hj := (List.getElem?_eq_some_iff.1 hu).1
    have := h.cells (g := g) rfl ((n1 + 1) * size + j) u (by rw [List.getElem?_append_right (by rw [List.length_append, hx, hy]; omega), List.length_append, hx, hy, show (n1 + 1) * size + j - (n1 * size + size) = j from by omega]; exact hu)
    rw [Addr.add_mid, Nat.zero_add] at this
    rw [Addr.add_lit]
    exact this
  · have hlt : 0 + n1 * size + j < (xs ++ ys ++ zs).length := by rw [hl]; omega
    have := h.cells (g := g) rfl (0 + n1 * size + j) _ (List.getElem?_eq_getElem hlt)
    rw [Addr.add_mid, Nat.zero_add] at this
    refine ⟨by rw [this]; rfl, ?_⟩
    rcases h.2 with ⟨e1, _⟩ | ⟨g', cap', cur, e1, hb, hg, _⟩
    · cases e1
    · cases e1
      exact frozen_of_row w g _ _ _ hg
attribute [local irreducible] strV digV digA sumL z32 bv
set_option maxRecDepth 100000 in
set_option maxHeartbeats 8000000 in
theorem orForget_yes (base g : Nat) (l1 l2 : List (List UInt8)) (s : ByteArray) (tv sv : Value) (b : Nat) (D : DataW Unit) (w : World) (hP : OrP base w g (l1 ++ s.data.toList :: l2) tv sv b D) (hs1 : s.data.toList ∉ l1) (hs : s.size ≤ maxLen) (hl : (l1 ++ s.data.toList :: l2).length ≤ 1000000) (hsz : ∀ x ∈ l2, x.length ≤ maxLen) :
    Calls Tryd.prog 11 #[.pointer (some ⟨g, 0, none⟩), .string s] w fun e w' => ∃ tv' sv' D', e = .returned (.int .i64 0) ∧ OrP base w' g (l1 ++ l2) tv' sv' b D' ∧ Below base w w' ∧ OrKept w w' g b tv sv tv' sv' := by
  have hbw : base ≤ w.heap.size := Nat.le_trans hP.hb (Nat.le_of_lt (Array.getElem?_eq_some_iff.1 hP.hg).1)
  obtain ⟨is_, hsi, hsz0, hsz1, hsz2⟩ := info_parts' info_str'
  obtain ⟨id_, hdi, hdz0, hdz1, hdz2⟩ := info_parts' info_dig'
  obtain ⟨gt, gs, tc, sc, rfl, rfl, htc, hsc, F⟩ := FgS.of hP (by rw [List.length_append, List.length_cons]; omega) hbw
  have HND : Hid ((l1 ++ l2).Nodup) := Lib.hid (by
    have := hP.nd
    rw [List.nodup_append] at this ⊢
    obtain ⟨q1, q2, q3⟩ := this
    exact ⟨q1, (List.nodup_cons.1 q2).2, fun a ha c hc => q3 a ha c (List.mem_cons_of_mem _ hc)⟩)
  have HMI := Lib.hid (Mid.start hP.ix (World.ownsMap.tidy hP.hm lawS) hs1 hP.nd hP.hm.size_le)
  have HKEY : Hid (keyOf Tryd.prog 9 (.string s) = some (kS s.data.toList)) := Lib.hid (Go.WideMaps.keyOf_string_mk Tryd.underlying9 hs)
  have HHAS : Hid (has D (kS s.data.toList) = true) := Lib.hid (by rw [(hP.ix s.data.toList).1]; exact decide_eq_true (by simp))
  have HIX : Hid (D.atKey (kS s.data.toList) (.lit (.int .i64 0)) = .lit (.int .i64 (l1.length : Int))) := Lib.hid (by rw [(hP.ix s.data.toList).2 (by simp), idx_split hs1])
  have hN : (l1 ++ s.data.toList :: l2).length = l1.length + 1 + l2.length := by rw [List.length_append, List.length_cons]; omega
  have hm := F.hm
  have c0 := cell_of_row w g 0 _ _ _ F.hg
  have c1 := cell_of_row w g 1 _ _ _ F.hg
  have c2 := cell_of_row w g 2 _ _ _ F.hg
  have HF := Lib.hid F
  clear hP F
  obtain ⟨N, HN⟩ : ∃ N, Hid ((l1 ++ s.data.toList :: l2).length = N) := ⟨_, Lib.hid rfl⟩
  rw [HN.out] at hl htc hsc hN c0 c1 hm
  obtain ⟨i, HI⟩ : ∃ i, Hid (l1.length = i) := ⟨_, Lib.hid rfl⟩
  obtain ⟨m2, HM2⟩ : ∃ m2, Hid (l2.length = m2) := ⟨_, Lib.hid rfl⟩
  rw [HI.out, HM2.out] at hN
  rw [HI.out] at HIX
  go_enter Tryd.func11, Tryd.ntmps11
  go_upto_region 4 with (at_lookup; refine wpList_lookup_own_ok_int _ rfl _ _ 68 rfl 9 3 .i64 lawS Tryd.underlying68 Tryd.underlying3 (zeroI _) b N D rfl hm _ (kS s.data.toList) rfl HKEY.out ?_; intro c hat hwc; rw [HIX.out] at hat; obtain rfl : (i : Int) = c := (by injection hat with hat; injection hat); rw [HHAS.out]; clear hat hwc)
  go_upto_region 7 with (at_delete; refine wpList_delete_own _ rfl _ _ 68 9 rfl 3 lawS Tryd.underlying68 _ b N D rfl hm _ (kS s.data.toList) rfl HKEY.out ?_; intro w1 M1 T1)
  have F1 := (HF.out.map M1 T1.grown hbw).drew
  clear HF M1 T1 hm c0 c1 c2 HKEY HHAS HIX
  have hbw1 : base ≤ w1.heap.size := Nat.le_trans hbw F1.bel.size
  have c0 := cell_of_row w1.drew g 0 _ _ _ F1.hg
  rw [HN.out] at c0
  have h1 := F1.ht
  rw [HN.out, hN, strV_split] at h1
  obtain ⟨k1, k2⟩ := own_tail h1 (by rw [strV_len, Nat.mul_one, HI.out]) (by rw [strV_len]; rfl) (by rw [strV_len, Nat.mul_one, HM2.out])
  have HK1 := Lib.hid k1
  have HK2 := Lib.hid k2
  have HLN : Hid ((strV l2).length = m2 * 1) := Lib.hid (by rw [strV_len, Nat.mul_one, HM2.out])
  have HON := Lib.hid (strV_one l2)
  have f0 := frozen_of_row w1.drew g 0 _ _ F1.hg
  have hgt := F1.apart.1
  have HF1 := Lib.hid F1
  clear F1 h1 k1 k2
  have hi0 : 0 ≤ (i : Int) := by omega
  have hiN : (i : Int) ≤ (N : Int) := by omega
  have hitc : (i : Int) ≤ (tc : Int) := by omega
  have hitc2 : i ≤ tc := by omega
  have hwr : IntKind.i64.wrap ((i : Int) + 1) = (i : Int) + 1 := by rw [IntKind.wrap_i64]; omega
  have hp0 : (0 : Int) ≤ (i : Int) + 1 := by omega
  have hp1 : (i : Int) + 1 ≤ (N : Int) := by omega
  have hp2 : ((i : Int) + 1).toNat = i + 1 := by omega
  have hp3 : N - (i + 1) = m2 := by omega
  have hsub : (N : Int) - ((i : Int) + 1) = (m2 : Int) := by omega
  have him : i + m2 ≤ tc := by omega
  have him2 : i + m2 ≤ sc := by omega
  obtain ⟨ad, hif, HAC⟩ : ∃ ad : Addr, (if tc = i + 1 then some (⟨gt, 0, none⟩ : Addr) else some ⟨gt, i + 1, none⟩) = some ad ∧ Hid (∀ j u, (strV l2)[j]? = some u → w1.drew.cell? (ad.add j) = some u) := by
    by_cases q : tc = i + 1
    · refine ⟨_, if_pos q, Lib.hid fun j u hu => ?_⟩
      have := (List.getElem?_eq_some_iff.1 hu).1
      rw [HLN.out] at this
      omega
    · exact ⟨_, if_neg q, Lib.hid fun j u hu => by have := HK1.out j u hu; rw [Nat.mul_one] at this; exact this⟩
  have HNE := Lib.hid hN
  clear hN HK1
  have HKX : Hid (∀ j, j < (strV l2).length → (w1.drew.cell? ⟨gt, 0 + i * 1 + j, none⟩).isSome = true ∧ w1.drew.frozen? ⟨gt, 0 + i * 1 + j, none⟩ = false) := HK2
  have HC0 : Hid ((w1.drew.setCells gt i (strV l2)).cell? ⟨g, 0, none⟩ = some (.slice (some ⟨gt, 0, none⟩) N tc)) := Lib.hid ((World.cell?_of_block (a := ⟨g, 0, none⟩) (setCells_block gt _ _ w1.drew g (Ne.symm hgt))).trans c0)
  have f0' : (w1.drew.setCells gt i (strV l2)).frozen? ⟨g, 0, none⟩ = false := (World.frozen?_of_block (a := ⟨g, 0, none⟩) (setCells_block gt _ _ w1.drew g (Ne.symm hgt))).trans f0
  have c0' := HC0.out
  clear HK2
  refine wp_region_lin (S := (fun w' => w'.cell? ⟨g, 0, none⟩ = some (.slice (some ⟨gt, 0, none⟩) N tc))) [(0, true), (1, true), (2, true), (3, true), (4, true), (5, true), (6, true), (7, true), (8, true), (9, true), (10, true), (11, true), (12, true), (13, true), (14, false), (15, true), (16, true), (17, false)] (by kernel_rfl) (by kernel_rfl) rfl (by kernel_rfl) ?_ (fun hHeld => ?_)
  · (try dsimp only); exact c0
  generalize World.drew w1 = wd at *
  (refine wpL_calm (o := { dst := some 27, op := Go.Op.move (Go.Operand.tmp 0), type := 23, pos := "oracle.go:63", after := #[], guard := none }) (v := ?_) rfl (Or.inl ⟨by rfl, ?_⟩) ?_; rotate_left; (focus (intro w hSw; (try dsimp only at hSw); go_simp; (try (with_reducible rfl)); done)); try simp only [Act.put, List.setIfInBounds_toArray, List.set_cons_zero, List.set_cons_succ])
  (refine wpL_calm (o := { dst := some 28, op := Go.Op.move (Go.Operand.tmp 0), type := 23, pos := "oracle.go:63", after := #[], guard := none }) (v := ?_) rfl (Or.inl ⟨by rfl, ?_⟩) ?_; rotate_left; (focus (intro w hSw; (try dsimp only at hSw); go_simp; (try (with_reducible rfl)); done)); try simp only [Act.put, List.setIfInBounds_toArray, List.set_cons_zero, List.set_cons_succ])
  (refine wpL_calm (o := { dst := some 29, op := Go.Op.nilCheck (Go.Operand.tmp 28), type := 0, pos := "oracle.go:63", after := #[{ on := 1, ground := Go.Ground.data }], guard := none }) (v := ?_) rfl (Or.inl ⟨by rfl, ?_⟩) ?_; rotate_left; (focus (intro w hSw; (try dsimp only at hSw); go_simp; (try (with_reducible rfl)); done)); try simp only [Act.put, List.setIfInBounds_toArray, List.set_cons_zero, List.set_cons_succ])
  (refine wpL_calm (o := { dst := some 30, op := Go.Op.fieldAddr 70 (Go.Operand.tmp 29) 0, type := 0, pos := "oracle.go:63", after := #[{ on := 2, ground := Go.Ground.data }], guard := none }) (v := ?_) rfl (Or.inl ⟨by rfl, ?_⟩) ?_; rotate_left; (focus (intro w hSw; (try dsimp only at hSw); go_simp; (try (with_reducible rfl)); done)); try simp only [Act.put, List.setIfInBounds_toArray, List.set_cons_zero, List.set_cons_succ])
  (refine wpL_calm (o := { dst := some 31, op := Go.Op.load 25 (Go.Operand.tmp 30), type := 25, pos := "oracle.go:63", after := #[{ on := 3, ground := Go.Ground.data }], guard := none }) (v := ?_) rfl (Or.inl ⟨by rfl, ?_⟩) ?_; rotate_left; (focus (intro w hSw; (try dsimp only at hSw); go_simp; (try (with_reducible rfl)); done)); try simp only [Act.put, List.setIfInBounds_toArray, List.set_cons_zero, List.set_cons_succ])
  (refine wpL_calm (o := { dst := some 32, op := Go.Op.move (Go.Operand.tmp 5), type := 3, pos := "oracle.go:63", after := #[], guard := none }) (v := ?_) rfl (Or.inl ⟨by rfl, ?_⟩) ?_; rotate_left; (focus (intro w hSw; (try dsimp only at hSw); go_simp; (try (with_reducible rfl)); done)); try simp only [Act.put, List.setIfInBounds_toArray, List.set_cons_zero, List.set_cons_succ])
  (refine wpL_calm (o := { dst := some 33, op := Go.Op.slice 25 (Go.Operand.tmp 31) none (some (Go.Operand.tmp 32)) none, type := 25, pos := "oracle.go:63", after := #[{ on := 4, ground := Go.Ground.data }, { on := 5, ground := Go.Ground.data }], guard := none }) (v := ?_) rfl (Or.inl ⟨by rfl, ?_⟩) ?_; rotate_left; (focus (intro w hSw; (try dsimp only at hSw); go_simp; (try (with_reducible rfl)); done)); try simp only [Act.put, List.setIfInBounds_toArray, List.set_cons_zero, List.set_cons_succ])
  (refine wpL_calm (o := { dst := some 34, op := Go.Op.move (Go.Operand.tmp 0), type := 23, pos := "oracle.go:63", after := #[], guard := none }) (v := ?_) rfl (Or.inl ⟨by rfl, ?_⟩) ?_; rotate_left; (focus (intro w hSw; (try dsimp only at hSw); go_simp; (try (with_reducible rfl)); done)); try simp only [Act.put, List.setIfInBounds_toArray, List.set_cons_zero, List.set_cons_succ])
  (refine wpL_calm (o := { dst := some 35, op := Go.Op.nilCheck (Go.Operand.tmp 34), type := 0, pos := "oracle.go:63", after := #[{ on := 7, ground := Go.Ground.data }], guard := none }) (v := ?_) rfl (Or.inl ⟨by rfl, ?_⟩) ?_; rotate_left; (focus (intro w hSw; (try dsimp only at hSw); go_simp; (try (with_reducible rfl)); done)); try simp only [Act.put, List.setIfInBounds_toArray, List.set_cons_zero, List.set_cons_succ])
  (refine wpL_calm (o := { dst := some 36, op := Go.Op.fieldAddr 70 (Go.Operand.tmp 35) 0, type := 0, pos := "oracle.go:63", after := #[{ on := 8, ground := Go.Ground.data }], guard := none }) (v := ?_) rfl (Or.inl ⟨by rfl, ?_⟩) ?_; rotate_left; (focus (intro w hSw; (try dsimp only at hSw); go_simp; (try (with_reducible rfl)); done)); try simp only [Act.put, List.setIfInBounds_toArray, List.set_cons_zero, List.set_cons_succ])
  (refine wpL_calm (o := { dst := some 37, op := Go.Op.load 25 (Go.Operand.tmp 36), type := 25, pos := "oracle.go:63", after := #[{ on := 9, ground := Go.Ground.data }], guard := none }) (v := ?_) rfl (Or.inl ⟨by rfl, ?_⟩) ?_; rotate_left; (focus (intro w hSw; (try dsimp only at hSw); go_simp; (try (with_reducible rfl)); done)); try simp only [Act.put, List.setIfInBounds_toArray, List.set_cons_zero, List.set_cons_succ])
  (refine wpL_calm (o := { dst := some 38, op := Go.Op.move (Go.Operand.tmp 5), type := 3, pos := "oracle.go:63", after := #[], guard := none }) (v := ?_) rfl (Or.inl ⟨by rfl, ?_⟩) ?_; rotate_left; (focus (intro w hSw; (try dsimp only at hSw); go_simp; (try (with_reducible rfl)); done)); try simp only [Act.put, List.setIfInBounds_toArray, List.set_cons_zero, List.set_cons_succ])
  (refine wpL_calm (o := { dst := some 39, op := Go.Op.binOp Go.BinOp.add 3 (Go.Operand.tmp 38) (Go.Operand.const (Go.Value.int Go.IntKind.i64 1)) 3, type := 3, pos := "oracle.go:63", after := #[{ on := 11, ground := Go.Ground.data }], guard := none }) (v := ?_) rfl (Or.inl ⟨by rfl, ?_⟩) ?_; rotate_left; (focus (intro w hSw; (try dsimp only at hSw); go_simp; (try (with_reducible rfl)); done)); try simp only [Act.put, List.setIfInBounds_toArray, List.set_cons_zero, List.set_cons_succ])
  (refine wpL_calm (o := { dst := some 40, op := Go.Op.slice 25 (Go.Operand.tmp 37) (some (Go.Operand.tmp 39)) none none, type := 25, pos := "oracle.go:63", after := #[{ on := 10, ground := Go.Ground.data }, { on := 12, ground := Go.Ground.data }], guard := none }) (v := ?_) rfl (Or.inl ⟨by rfl, ?_⟩) ?_; rotate_left; (focus (intro w hSw; (try dsimp only at hSw); go_simp; (try (with_reducible rfl)); done)); try simp only [Act.put, List.setIfInBounds_toArray, List.set_cons_zero, List.set_cons_succ])
  refine wpL_loud1 (o := { dst := some 41, op := Go.Op.call { callee := Go.Callee.builtin Go.Builtin.append, args := #[Go.Operand.tmp 33, Go.Operand.tmp 40], argTypes := #[25, 25] }, type := 25, pos := "oracle.go:63", after := #[{ on := 6, ground := Go.Ground.data }, { on := 13, ground := Go.Ground.data }], guard := none }) rfl (fun K hK => ?_)
  (refine step_append_room rfl (.tmp 33) (.tmp 40) 25 rfl 9 is_ 1 Tryd.underlying25 hsi hsz1 gt 0 i tc (by simp [Act.eval, Act.put]) ad m2 (tc - (i + 1)) (strV l2) (by simp [Act.eval, Act.put]) HLN.out HAC.out HON.out him HKX.out ?_)
  try go_wp2_with fail
  refine hK.out _ _ ?_ (fun hHeld => ?_)
  · (try dsimp only); exact HC0.out
  clear hK K
  try simp only [Act.put, List.setIfInBounds_toArray, List.set_cons_zero, List.set_cons_succ]
  (refine wpL_calm (o := { dst := some 42, op := Go.Op.nilCheck (Go.Operand.tmp 27), type := 0, pos := "oracle.go:63", after := #[{ on := 0, ground := Go.Ground.data }, { on := 0, ground := Go.Ground.phase }, { on := 1, ground := Go.Ground.phase }, { on := 2, ground := Go.Ground.phase }, { on := 3, ground := Go.Ground.phase }, { on := 4, ground := Go.Ground.phase }, { on := 5, ground := Go.Ground.phase }, { on := 6, ground := Go.Ground.phase }, { on := 7, ground := Go.Ground.phase }, { on := 8, ground := Go.Ground.phase }, { on := 9, ground := Go.Ground.phase }, { on := 10, ground := Go.Ground.phase }, { on := 11, ground := Go.Ground.phase }, { on := 12, ground := Go.Ground.phase }, { on := 13, ground := Go.Ground.phase }, { on := 14, ground := Go.Ground.phase }], guard := none }) (v := ?_) rfl (Or.inl ⟨by rfl, ?_⟩) ?_; rotate_left; (focus (intro w hSw; (try dsimp only at hSw); go_simp; (try (with_reducible rfl)); done)); try simp only [Act.put, List.setIfInBounds_toArray, List.set_cons_zero, List.set_cons_succ])
  (refine wpL_calm (o := { dst := some 43, op := Go.Op.fieldAddr 70 (Go.Operand.tmp 42) 0, type := 0, pos := "oracle.go:63", after := #[{ on := 15, ground := Go.Ground.data }, { on := 0, ground := Go.Ground.phase }, { on := 1, ground := Go.Ground.phase }, { on := 2, ground := Go.Ground.phase }, { on := 3, ground := Go.Ground.phase }, { on := 4, ground := Go.Ground.phase }, { on := 5, ground := Go.Ground.phase }, { on := 6, ground := Go.Ground.phase }, { on := 7, ground := Go.Ground.phase }, { on := 8, ground := Go.Ground.phase }, { on := 9, ground := Go.Ground.phase }, { on := 10, ground := Go.Ground.phase }, { on := 11, ground := Go.Ground.phase }, { on := 12, ground := Go.Ground.phase }, { on := 13, ground := Go.Ground.phase }, { on := 14, ground := Go.Ground.phase }], guard := none }) (v := ?_) rfl (Or.inl ⟨by rfl, ?_⟩) ?_; rotate_left; (focus (intro w hSw; (try dsimp only at hSw); go_simp; (try (with_reducible rfl)); done)); try simp only [Act.put, List.setIfInBounds_toArray, List.set_cons_zero, List.set_cons_succ])
  refine wpL_loud0 (o := { dst := none, op := Go.Op.store 25 (Go.Operand.tmp 43) (Go.Operand.tmp 41), type := 0, pos := "oracle.go:63", after := #[{ on := 16, ground := Go.Ground.data }, { on := 14, ground := Go.Ground.data }, { on := 14, ground := Go.Ground.chain }, { on := 0, ground := Go.Ground.phase }, { on := 1, ground := Go.Ground.phase }, { on := 2, ground := Go.Ground.phase }, { on := 3, ground := Go.Ground.phase }, { on := 4, ground := Go.Ground.phase }, { on := 5, ground := Go.Ground.phase }, { on := 6, ground := Go.Ground.phase }, { on := 7, ground := Go.Ground.phase }, { on := 8, ground := Go.Ground.phase }, { on := 9, ground := Go.Ground.phase }, { on := 10, ground := Go.Ground.phase }, { on := 11, ground := Go.Ground.phase }, { on := 12, ground := Go.Ground.phase }, { on := 13, ground := Go.Ground.phase }, { on := 14, ground := Go.Ground.phase }], guard := none }) rfl (by kernel_rfl) (fun K hK => ?_)
  go_simp
  refine hK.out _ _ ?_
  clear hK K
  try simp only [Act.put, List.setIfInBounds_toArray, List.set_cons_zero, List.set_cons_succ]
  refine wpL_nil ?_
  refine NoPanic.normal ?_
  have F2 : FgS base w ((wd.setCells gt i (strV l2)).setCell ⟨g, 0, none⟩ (.slice (some ⟨gt, 0, none⟩) (i + m2) tc)) g b gt gs tc sc (l1 ++ l2) (l1 ++ s.data.toList :: l2) N (D.del (kS s.data.toList)) := by
    have := HF1.out.cutT
    rw [HI.out, Nat.mul_one, Nat.zero_add, show (l1 ++ l2).length = i + m2 from by rw [List.length_append, HI.out, HM2.out]] at this
    exact this
  have B2 := F2.bel
  generalize hw2 : (wd.setCells gt i (strV l2)).setCell ⟨g, 0, none⟩ (.slice (some ⟨gt, 0, none⟩) (i + m2) tc) = w2 at *
  clear hw2 HC0 f0' c0' c0 f0 HAC hif HON HLN HKX HF1 hHeld hitc hitc2 him
  have F2d := F2.drew
  have c1 := cell_of_row w2.drew g 1 _ _ _ F2d.hg
  rw [HN.out] at c1
  have h1 := F2d.hs
  rw [HN.out, HNE.out, digV_split] at h1
  obtain ⟨k1, k2⟩ := own_tail h1 (by rw [digV_len, HI.out]) (by rw [digV_len]; rfl) (by rw [digV_len, HM2.out])
  have HKX : Hid (∀ j, j < (digV l2).length → (w2.drew.cell? ⟨gs, 0 + i * 32 + j, none⟩).isSome = true ∧ w2.drew.frozen? ⟨gs, 0 + i * 32 + j, none⟩ = false) := Lib.hid k2
  have HLN : Hid ((digV l2).length = m2 * 32) := Lib.hid (by rw [digV_len, HM2.out])
  have HON := Lib.hid (digV_one l2)
  have f1 := frozen_of_row w2.drew g 1 _ _ F2d.hg
  have hgs := F2d.apart.2.1
  have HF2 := Lib.hid F2d
  have hisc : (i : Int) ≤ (sc : Int) := by omega
  have hisc2 : i ≤ sc := by omega
  obtain ⟨ad2, hif2, HAC⟩ : ∃ ad : Addr, (if sc = i + 1 then some (⟨gs, 0, none⟩ : Addr) else some ⟨gs, (i + 1) * 32, none⟩) = some ad ∧ Hid (∀ j u, (digV l2)[j]? = some u → w2.drew.cell? (ad.add j) = some u) := by
    by_cases q : sc = i + 1
    · refine ⟨_, if_pos q, Lib.hid fun j u hu => ?_⟩
      have := (List.getElem?_eq_some_iff.1 hu).1
      rw [HLN.out] at this
      omega
    · exact ⟨_, if_neg q, Lib.hid k1⟩
  have HC0 : Hid ((w2.drew.setCells gs (i * 32) (digV l2)).cell? ⟨g, 1, none⟩ = some (.slice (some ⟨gs, 0, none⟩) N sc)) := Lib.hid ((World.cell?_of_block (a := ⟨g, 1, none⟩) (setCells_block gs _ _ w2.drew g (Ne.symm hgs))).trans c1)
  have f1' : (w2.drew.setCells gs (i * 32) (digV l2)).frozen? ⟨g, 1, none⟩ = false := (World.frozen?_of_block (a := ⟨g, 1, none⟩) (setCells_block gs _ _ w2.drew g (Ne.symm hgs))).trans f1
  have c1' := HC0.out
  clear k1 k2 h1 F2 F2d B2
  go_upto_region 8 with fail
  refine wp_region_lin (S := (fun w' => w'.cell? ⟨g, 1, none⟩ = some (.slice (some ⟨gs, 0, none⟩) N sc))) [(0, true), (1, true), (2, true), (3, true), (4, true), (5, true), (6, true), (7, true), (8, true), (9, true), (10, true), (11, true), (12, true), (13, true), (14, false), (15, true), (16, true), (17, false)] (by kernel_rfl) (by kernel_rfl) rfl (by kernel_rfl) ?_ (fun hHeld => ?_)
  · (try dsimp only); exact c1
  generalize World.drew w2 = wd at *
  (refine wpL_calm (o := { dst := some 44, op := Go.Op.move (Go.Operand.tmp 0), type := 23, pos := "oracle.go:64", after := #[], guard := none }) (v := ?_) rfl (Or.inl ⟨by rfl, ?_⟩) ?_; rotate_left; (focus (intro w hSw; (try dsimp only at hSw); go_simp; (try (with_reducible rfl)); done)); try simp only [Act.put, List.setIfInBounds_toArray, List.set_cons_zero, List.set_cons_succ])
  (refine wpL_calm (o := { dst := some 45, op := Go.Op.move (Go.Operand.tmp 0), type := 23, pos := "oracle.go:64", after := #[], guard := none }) (v := ?_) rfl (Or.inl ⟨by rfl, ?_⟩) ?_; rotate_left; (focus (intro w hSw; (try dsimp only at hSw); go_simp; (try (with_reducible rfl)); done)); try simp only [Act.put, List.setIfInBounds_toArray, List.set_cons_zero, List.set_cons_succ])
  (refine wpL_calm (o := { dst := some 46, op := Go.Op.nilCheck (Go.Operand.tmp 45), type := 0, pos := "oracle.go:64", after := #[{ on := 1, ground := Go.Ground.data }], guard := none }) (v := ?_) rfl (Or.inl ⟨by rfl, ?_⟩) ?_; rotate_left; (focus (intro w hSw; (try dsimp only at hSw); go_simp; (try (with_reducible rfl)); done)); try simp only [Act.put, List.setIfInBounds_toArray, List.set_cons_zero, List.set_cons_succ])
  (refine wpL_calm (o := { dst := some 47, op := Go.Op.fieldAddr 70 (Go.Operand.tmp 46) 1, type := 0, pos := "oracle.go:64", after := #[{ on := 2, ground := Go.Ground.data }], guard := none }) (v := ?_) rfl (Or.inl ⟨by rfl, ?_⟩) ?_; rotate_left; (focus (intro w hSw; (try dsimp only at hSw); go_simp; (try (with_reducible rfl)); done)); try simp only [Act.put, List.setIfInBounds_toArray, List.set_cons_zero, List.set_cons_succ])
  (refine wpL_calm (o := { dst := some 48, op := Go.Op.load 54 (Go.Operand.tmp 47), type := 54, pos := "oracle.go:64", after := #[{ on := 3, ground := Go.Ground.data }], guard := none }) (v := ?_) rfl (Or.inl ⟨by rfl, ?_⟩) ?_; rotate_left; (focus (intro w hSw; (try dsimp only at hSw); go_simp; (try (with_reducible rfl)); done)); try simp only [Act.put, List.setIfInBounds_toArray, List.set_cons_zero, List.set_cons_succ])
  (refine wpL_calm (o := { dst := some 49, op := Go.Op.move (Go.Operand.tmp 5), type := 3, pos := "oracle.go:64", after := #[], guard := none }) (v := ?_) rfl (Or.inl ⟨by rfl, ?_⟩) ?_; rotate_left; (focus (intro w hSw; (try dsimp only at hSw); go_simp; (try (with_reducible rfl)); done)); try simp only [Act.put, List.setIfInBounds_toArray, List.set_cons_zero, List.set_cons_succ])
  (refine wpL_calm (o := { dst := some 50, op := Go.Op.slice 54 (Go.Operand.tmp 48) none (some (Go.Operand.tmp 49)) none, type := 54, pos := "oracle.go:64", after := #[{ on := 4, ground := Go.Ground.data }, { on := 5, ground := Go.Ground.data }], guard := none }) (v := ?_) rfl (Or.inl ⟨by rfl, ?_⟩) ?_; rotate_left; (focus (intro w hSw; (try dsimp only at hSw); go_simp; (try (with_reducible rfl)); done)); try simp only [Act.put, List.setIfInBounds_toArray, List.set_cons_zero, List.set_cons_succ])
  (refine wpL_calm (o := { dst := some 51, op := Go.Op.move (Go.Operand.tmp 0), type := 23, pos := "oracle.go:64", after := #[], guard := none }) (v := ?_) rfl (Or.inl ⟨by rfl, ?_⟩) ?_; rotate_left; (focus (intro w hSw; (try dsimp only at hSw); go_simp; (try (with_reducible rfl)); done)); try simp only [Act.put, List.setIfInBounds_toArray, List.set_cons_zero, List.set_cons_succ])
  (refine wpL_calm (o := { dst := some 52, op := Go.Op.nilCheck (Go.Operand.tmp 51), type := 0, pos := "oracle.go:64", after := #[{ on := 7, ground := Go.Ground.data }], guard := none }) (v := ?_) rfl (Or.inl ⟨by rfl, ?_⟩) ?_; rotate_left; (focus (intro w hSw; (try dsimp only at hSw); go_simp; (try (with_reducible rfl)); done)); try simp only [Act.put, List.setIfInBounds_toArray, List.set_cons_zero, List.set_cons_succ])
  (refine wpL_calm (o := { dst := some 53, op := Go.Op.fieldAddr 70 (Go.Operand.tmp 52) 1, type := 0, pos := "oracle.go:64", after := #[{ on := 8, ground := Go.Ground.data }], guard := none }) (v := ?_) rfl (Or.inl ⟨by rfl, ?_⟩) ?_; rotate_left; (focus (intro w hSw; (try dsimp only at hSw); go_simp; (try (with_reducible rfl)); done)); try simp only [Act.put, List.setIfInBounds_toArray, List.set_cons_zero, List.set_cons_succ])
  (refine wpL_calm (o := { dst := some 54, op := Go.Op.load 54 (Go.Operand.tmp 53), type := 54, pos := "oracle.go:64", after := #[{ on := 9, ground := Go.Ground.data }], guard := none }) (v := ?_) rfl (Or.inl ⟨by rfl, ?_⟩) ?_; rotate_left; (focus (intro w hSw; (try dsimp only at hSw); go_simp; (try (with_reducible rfl)); done)); try simp only [Act.put, List.setIfInBounds_toArray, List.set_cons_zero, List.set_cons_succ])
  (refine wpL_calm (o := { dst := some 55, op := Go.Op.move (Go.Operand.tmp 5), type := 3, pos := "oracle.go:64", after := #[], guard := none }) (v := ?_) rfl (Or.inl ⟨by rfl, ?_⟩) ?_; rotate_left; (focus (intro w hSw; (try dsimp only at hSw); go_simp; (try (with_reducible rfl)); done)); try simp only [Act.put, List.setIfInBounds_toArray, List.set_cons_zero, List.set_cons_succ])
  (refine wpL_calm (o := { dst := some 56, op := Go.Op.binOp Go.BinOp.add 3 (Go.Operand.tmp 55) (Go.Operand.const (Go.Value.int Go.IntKind.i64 1)) 3, type := 3, pos := "oracle.go:64", after := #[{ on := 11, ground := Go.Ground.data }], guard := none }) (v := ?_) rfl (Or.inl ⟨by rfl, ?_⟩) ?_; rotate_left; (focus (intro w hSw; (try dsimp only at hSw); go_simp; (try (with_reducible rfl)); done)); try simp only [Act.put, List.setIfInBounds_toArray, List.set_cons_zero, List.set_cons_succ])
  (refine wpL_calm (o := { dst := some 57, op := Go.Op.slice 54 (Go.Operand.tmp 54) (some (Go.Operand.tmp 56)) none none, type := 54, pos := "oracle.go:64", after := #[{ on := 10, ground := Go.Ground.data }, { on := 12, ground := Go.Ground.data }], guard := none }) (v := ?_) rfl (Or.inl ⟨by rfl, ?_⟩) ?_; rotate_left; (focus (intro w hSw; (try dsimp only at hSw); go_simp; (try (with_reducible rfl)); done)); try simp only [Act.put, List.setIfInBounds_toArray, List.set_cons_zero, List.set_cons_succ])
  refine wpL_loud1 (o := { dst := some 58, op := Go.Op.call { callee := Go.Callee.builtin Go.Builtin.append, args := #[Go.Operand.tmp 50, Go.Operand.tmp 57], argTypes := #[54, 54] }, type := 54, pos := "oracle.go:64", after := #[{ on := 6, ground := Go.Ground.data }, { on := 13, ground := Go.Ground.data }], guard := none }) rfl (fun K hK => ?_)
  (refine step_append_room rfl (.tmp 50) (.tmp 57) 54 rfl 34 id_ 32 Tryd.underlying54 hdi hdz1 gs 0 i sc (by simp [Act.eval, Act.put]) ad2 m2 (sc - (i + 1)) (digV l2) (by simp [Act.eval, Act.put]) HLN.out HAC.out HON.out him2 HKX.out ?_)
  try go_wp2_with fail
  refine hK.out _ _ ?_ (fun hHeld => ?_)
  · (try dsimp only); exact HC0.out
  clear hK K
  try simp only [Act.put, List.setIfInBounds_toArray, List.set_cons_zero, List.set_cons_succ]
  (refine wpL_calm (o := { dst := some 59, op := Go.Op.nilCheck (Go.Operand.tmp 44), type := 0, pos := "oracle.go:64", after := #[{ on := 0, ground := Go.Ground.data }, { on := 0, ground := Go.Ground.phase }, { on := 1, ground := Go.Ground.phase }, { on := 2, ground := Go.Ground.phase }, { on := 3, ground := Go.Ground.phase }, { on := 4, ground := Go.Ground.phase }, { on := 5, ground := Go.Ground.phase }, { on := 6, ground := Go.Ground.phase }, { on := 7, ground := Go.Ground.phase }, { on := 8, ground := Go.Ground.phase }, { on := 9, ground := Go.Ground.phase }, { on := 10, ground := Go.Ground.phase }, { on := 11, ground := Go.Ground.phase }, { on := 12, ground := Go.Ground.phase }, { on := 13, ground := Go.Ground.phase }, { on := 14, ground := Go.Ground.phase }], guard := none }) (v := ?_) rfl (Or.inl ⟨by rfl, ?_⟩) ?_; rotate_left; (focus (intro w hSw; (try dsimp only at hSw); go_simp; (try (with_reducible rfl)); done)); try simp only [Act.put, List.setIfInBounds_toArray, List.set_cons_zero, List.set_cons_succ])
  (refine wpL_calm (o := { dst := some 60, op := Go.Op.fieldAddr 70 (Go.Operand.tmp 59) 1, type := 0, pos := "oracle.go:64", after := #[{ on := 15, ground := Go.Ground.data }, { on := 0, ground := Go.Ground.phase }, { on := 1, ground := Go.Ground.phase }, { on := 2, ground := Go.Ground.phase }, { on := 3, ground := Go.Ground.phase }, { on := 4, ground := Go.Ground.phase }, { on := 5, ground := Go.Ground.phase }, { on := 6, ground := Go.Ground.phase }, { on := 7, ground := Go.Ground.phase }, { on := 8, ground := Go.Ground.phase }, { on := 9, ground := Go.Ground.phase }, { on := 10, ground := Go.Ground.phase }, { on := 11, ground := Go.Ground.phase }, { on := 12, ground := Go.Ground.phase }, { on := 13, ground := Go.Ground.phase }, { on := 14, ground := Go.Ground.phase }], guard := none }) (v := ?_) rfl (Or.inl ⟨by rfl, ?_⟩) ?_; rotate_left; (focus (intro w hSw; (try dsimp only at hSw); go_simp; (try (with_reducible rfl)); done)); try simp only [Act.put, List.setIfInBounds_toArray, List.set_cons_zero, List.set_cons_succ])
  refine wpL_loud0 (o := { dst := none, op := Go.Op.store 54 (Go.Operand.tmp 60) (Go.Operand.tmp 58), type := 0, pos := "oracle.go:64", after := #[{ on := 16, ground := Go.Ground.data }, { on := 14, ground := Go.Ground.data }, { on := 14, ground := Go.Ground.chain }, { on := 0, ground := Go.Ground.phase }, { on := 1, ground := Go.Ground.phase }, { on := 2, ground := Go.Ground.phase }, { on := 3, ground := Go.Ground.phase }, { on := 4, ground := Go.Ground.phase }, { on := 5, ground := Go.Ground.phase }, { on := 6, ground := Go.Ground.phase }, { on := 7, ground := Go.Ground.phase }, { on := 8, ground := Go.Ground.phase }, { on := 9, ground := Go.Ground.phase }, { on := 10, ground := Go.Ground.phase }, { on := 11, ground := Go.Ground.phase }, { on := 12, ground := Go.Ground.phase }, { on := 13, ground := Go.Ground.phase }, { on := 14, ground := Go.Ground.phase }], guard := none }) rfl (by kernel_rfl) (fun K hK => ?_)
  go_simp
  refine hK.out _ _ ?_
  clear hK K
  try simp only [Act.put, List.setIfInBounds_toArray, List.set_cons_zero, List.set_cons_succ]
  refine wpL_nil ?_
  refine NoPanic.normal ?_
  have F3 : FgS base w ((wd.setCells gs (i * 32) (digV l2)).setCell ⟨g, 1, none⟩ (.slice (some ⟨gs, 0, none⟩) (i + m2) sc)) g b gt gs tc sc (l1 ++ l2) (l1 ++ l2) N (D.del (kS s.data.toList)) := by
    have := HF2.out.cutS
    rw [HI.out, Nat.zero_add, show (l1 ++ l2).length = i + m2 from by rw [List.length_append, HI.out, HM2.out]] at this
    exact this
  generalize hw3 : (wd.setCells gs (i * 32) (digV l2)).setCell ⟨g, 1, none⟩ (.slice (some ⟨gs, 0, none⟩) (i + m2) sc) = w3 at *
  clear hw3 HC0 f1' c1' c1 f1 HAC hif2 HON HLN HKX HF2 hHeld hisc hisc2 him2 hwr hp0 hp1 hp2 hp3 hsub
  have HLL : Hid ((l1 ++ l2).length = i + m2) := Lib.hid (by rw [List.length_append, HI.out, HM2.out])
  have HTX : Hid (∀ k (h : i + k < (l1 ++ l2).length), (l1 ++ l2)[i + k].length ≤ maxLen) := Lib.hid (fun k h => by
    have e : i + k = l1.length + k := by rw [HI.out]
    have hk : k < l2.length := by rw [HLL.out] at h; rw [HM2.out]; omega
    have e2 : (l1 ++ l2)[i + k] = l2[k] := by
      simp only [e]
      rw [List.getElem_append_right (by omega)]
      simp
    rw [e2]
    exact hsz _ (List.getElem_mem hk))
  have HMI0 := HMI.out
  rw [HI.out] at HMI0
  have HM0 := Lib.hid HMI0
  clear HMI HMI0 hsz
  generalize hle : l1 ++ l2 = l at *
  have HLE := Lib.hid hle
  clear hle
  generalize D.del (kS s.data.toList) = D1 at *
  have hiL : (i : Int) ≤ ((i + m2 : Nat) : Int) := by omega
  have hitc2 : i + m2 ≤ tc := by have := HNE.out; omega
  have hilN : ((i + m2 : Nat) : Int) ≤ 1000000 := by have := HNE.out; omega
  have hsub2 : i + m2 - i = m2 := by omega
  have c0 := cell_of_row w3 g 0 _ _ _ F3.hg
  rw [HLL.out] at c0
  obtain ⟨L, HLX⟩ : ∃ L, Hid (i + m2 = L) := ⟨_, Lib.hid rfl⟩
  rw [HLX.out] at hiL hitc2 hilN hsub2 c0 HLL
  have hiL2 : i ≤ L := by have := HLX.out; omega
  have hiT : (i : Int) ≤ (tc : Int) := by omega
  obtain ⟨ad3, hif3, HTA⟩ : ∃ ad : Option Addr, (if tc = i then some (⟨gt, 0, none⟩ : Addr) else some ⟨gt, i, none⟩) = ad ∧ Hid (0 < m2 → ad = some ⟨gt, i, none⟩) := by
    by_cases q : tc = i
    · exact ⟨_, if_pos q, Lib.hid (fun h => by have := HLX.out; omega)⟩
    · exact ⟨_, if_neg q, Lib.hid (fun _ => rfl)⟩
  have HF3 := Lib.hid F3
  clear F3
  go_upto_region 10 with fail
  have HI0 : Hid (FgS base w w3 g b gt gs tc sc l l (N + 0) D1 ∧ Mid D1 l i 0) := Lib.hid ⟨HF3.out, HM0.out⟩
  clear HF3 HM0 c0
  go_wp2_with fail
  go_loopw [68] (fun x wi => ∃ (k : Nat) (Dk : DataW Unit), x = .int .i64 (k : Int) ∧ k ≤ m2 ∧ Hid (FgS base w wi g b gt gs tc sc l l (N + k) Dk ∧ Mid Dk l i k)) (fun x _ => m2 - (intOf x).toNat)
  case atStart => exact ⟨0, D1, rfl, by omega, HI0⟩
  clear HI0
  case round =>
    obtain ⟨k, Dk, rfl, hk, HK⟩ := hrel
    by_cases hlt : k < m2
    · as_aux_lemma =>
      have hli : (k : Int) < (m2 : Int) := by omega
      obtain rfl := HTA.out (by omega)
      have hkl : i + k < l.length := by rw [HLL.out]; have := HLX.out; omega
      have hcell : wr.cell? ⟨gt, i + k, none⟩ = some (.string ⟨(l[i + k]).toArray⟩) := by
        have := HK.out.1.ht.cells (g := gt) rfl (i + k) _ (strV_at l (i + k) hkl)
        rwa [Addr.add_mid, Nat.zero_add] at this
      have c2 := cell_of_row wr g 2 _ _ _ HK.out.1.hg
      have hm := HK.out.1.hm
      have HKEY : Hid (keyOf Tryd.prog 9 (.string ⟨(l[i + k]).toArray⟩) = some (kS l[i + k])) := Lib.hid (by
        have := Go.WideMaps.keyOf_string_mk (P := Tryd.prog) Tryd.underlying9 (s := ⟨(l[i + k]).toArray⟩) (by rw [show (⟨(l[i + k]).toArray⟩ : ByteArray).size = (l[i + k]).length from bytes_size _]; exact HTX.out k hkl)
        unfold kS
        simpa using this)
      have HST := Lib.hid (HK.out.2.step hkl HND.out)
      obtain ⟨p, hp⟩ : ∃ p, Hid (i + k = p) := ⟨_, Lib.hid rfl⟩
      have hadd : (i : Int) + (k : Int) = (p : Int) := by have := hp.out; omega
      have hpw : IntKind.i64.wrap (p : Int) = (p : Int) := by rw [IntKind.wrap_i64]; have := hp.out; omega
      have HWF : Hid ((Lit.int .i64 (p : Int)).wf = true) := Lib.hid (nat_wf p (by have := hp.out; omega))
      obtain ⟨x, HXX⟩ : ∃ x, Hid (l[i + k]'hkl = x) := ⟨_, Lib.hid rfl⟩
      rw [HXX.out] at HST HKEY hcell
      rw [hp.out] at HST
      clear HXX
      have hNk : N + k < maxLen := by unfold maxLen; omega
      have hbwr : base ≤ wr.heap.size := Nat.le_trans HK.out.1.hb (Nat.le_of_lt HK.out.1.lts.1)
      have hgg := Lib.hid HK.out.1
      clear HK hkl
      generalize (⟨x.toArray⟩ : ByteArray) = tx at *
      generalize kS x = kx at *
      go_wp2_with (at_mapUpdate; refine wpList_mapUpdate_own _ rfl _ _ _ 68 rfl 9 3 lawS Tryd.underlying68 _ b (N + k) Dk rfl hm hNk _ _ kx rfl rfl HKEY.out (.lit (.int .i64 (p : Int))) [] (plainElem_int Tryd.underlying3 HWF.out) ?_; intro w4 M4 G4)
      have HN4 : Hid (FgS base w w4 g b gt gs tc sc l l (N + (k + 1)) (Dk.put kx (.lit (.int .i64 (p : Int)))) ∧ Mid (Dk.put kx (.lit (.int .i64 (p : Int)))) l i (k + 1)) := Lib.hid ⟨hgg.out.map M4 G4 hbwr, HST.out⟩
      clear M4 G4 hgg HST hm
      go_wp2_with fail
      go_roundw
      case rel => exact ⟨k + 1, _, by go_num, by omega, HN4⟩
      case measure => simp [intOf]; omega
    · as_aux_lemma =>
      obtain rfl : k = m2 := by omega
      obtain ⟨F, M⟩ := HK.out
      have HE : Hid (∃ tv' sv' D', OrP base wr g l tv' sv' b D' ∧ Below base w wr ∧ OrKept w wr g b (.slice (some ⟨gt, 0, none⟩) (l1 ++ s.data.toList :: l2).length tc) (.slice (some ⟨gs, 0, none⟩) (l1 ++ s.data.toList :: l2).length sc) tv' sv') := Lib.hid ⟨_, _, _, F.done (M.done (by rw [HLL.out]; exact Nat.le_of_eq HLX.out.symm)) M.sz HND.out, F.bel, ⟨fun k o hk q1 q2 q3 q4 => F.kp k o hk q1 q2 (fun e => q3 (by rw [e]; rfl)) (fun e => q4 (by rw [e]; rfl)), fun k e => by cases e; exact Or.inl rfl, fun k e => by cases e; exact Or.inl rfl⟩⟩
      clear HK F M
      go_wp2_with fail
      go_ret
      obtain ⟨tv', sv', D', q1, q2, q3⟩ := HE.out
      exact ⟨tv', sv', D', by first | done | rfl, by rw [HLE.out]; exact q1, q2, q3⟩
set_option maxRecDepth 100000 in
set_option maxHeartbeats 2000000 in
theorem orForget_none (base g : Nat) (l : List (List UInt8)) (s : ByteArray) (tv sv : Value) (b : Nat) (D : DataW Unit) (w : World) (hP : OrP base w g l tv sv b D) (hs : s.size ≤ maxLen) (hin : s.data.toList ∉ l) :
    Calls Tryd.prog 11 #[.pointer (some ⟨g, 0, none⟩), .string s] w fun e w' => e = .returned (.int .i64 7) ∧ w = w' := by
  have HKEY : Hid (keyOf Tryd.prog 9 (.string s) = some (kS s.data.toList)) := Lib.hid (Go.WideMaps.keyOf_string_mk Tryd.underlying9 hs)
  have HHAS : Hid (has D (kS s.data.toList) = false) := Lib.hid (by rw [(hP.ix s.data.toList).1]; exact decide_eq_false hin)
  have hm := hP.hm
  have c2 := cell_of_row w g 2 _ _ _ hP.hg
  clear hP
  generalize l.length = N at *
  go_enter Tryd.func11, Tryd.ntmps11
  go_upto_region 4 with (at_lookup; refine wpList_lookup_own_ok_int _ rfl _ _ 68 rfl 9 3 .i64 lawS Tryd.underlying68 Tryd.underlying3 (zeroI _) b N D rfl hm _ (kS s.data.toList) rfl HKEY.out ?_; intro c hat hwc; rw [HHAS.out]; clear hat hwc)
  go_wp2_with fail
  go_ret
  exact ⟨by first | done | rfl, rfl⟩
end Go.Proofs.YtaneecmfgfkaaaaDoor
