/- The law FlatAll. -/
import Derived.Test.YtaemnelfnopjdaaFbF
namespace Go.Proofs.Ytaemnelfnopjdaa
open Go.ChangeShapes Go.WideShapes Go.Deep Go.RowKit Go.Maps
set_option linter.unusedVariables false
set_option linter.unusedSimpArgs false
theorem full_any (s : ByteArray) (n : Nat) (w : World) (hs : s.size ≤ 100000) (hn : n ≤ 10000) : ∃ T : ByteArray, n ≤ T.size ∧ T.size ≤ 100000 + n ∧ Calls Try.prog 23 #[.string s, .int .i64 (n : Int)] w fun e w' => e = .returned (.string T) ∧ Below w.heap.size w w' := by
  by_cases h : s.size < n
  · refine ⟨_, ?_, ?_, full_short s n w h hn⟩
    · have hz : (⟨(List.replicate (n - s.size) (0 : UInt8)).toArray⟩ : ByteArray).size = n - s.size := by rw [bytes_size, List.length_replicate]
      rw [ByteArray.size_append, hz]; omega
    · have hz : (⟨(List.replicate (n - s.size) (0 : UInt8)).toArray⟩ : ByteArray).size = n - s.size := by rw [bytes_size, List.length_replicate]
      rw [ByteArray.size_append, hz]; omega
  · refine ⟨s, by omega, by omega, (full_long s n w (by omega)).mono ?_⟩
    rintro e w' ⟨rfl, rfl⟩
    exact ⟨rfl, Below.refl _ _⟩
theorem crM_len {K : Nat} {M : Fl} {f : List Nat} {now : List UInt8} (h : R1 K M f now) : (crM M).F.length ≤ M.C.length + 1 := by
  have h1 := crIn_len M 1
  have h2 : crashL M = crL (crIn M 1) := by
    unfold crashL crIn
    rw [List.take_of_length_le (by rw [h.F]; simp)]
  show (crashL M).length ≤ _
  rw [h2]
  exact Nat.le_trans (crL_len _) (by omega)
theorem AlR.noact {w : World} {B k : Nat} {v : Value} {L : List (List UInt8)} {OL CL : List Nat} (h : AlR w B v L OL CL) (hk : tyAt w k = some 32) : v.ownBlock ≠ some k := fun e => by
  rcases h.1.2 with ⟨rfl, _⟩ | ⟨g2, cap, cur, rfl, q1, q2, q3⟩
  · cases e
  · cases e
    rw [tyAt_cells q2] at hk
    revert hk
    decide
theorem ba_toL (s t : ByteArray) (h : s.toList = t.toList) : s = t := by
  have h2 : s.data.toList = t.data.toList := by rw [Lib.toList_data, Lib.toList_data] at h; exact h
  cases s; cases t
  simp only [ByteArray.mk.injEq]
  exact Array.toList_inj.1 h2
theorem in_take {L : List (List UInt8)} {x : List UInt8} {j : Nat} (h : j < L.length) {b c : Bool} (hb : b = decide (x ∈ L.take j)) (hc : c = decide (L[j] = x)) : (b || c) = decide (x ∈ L.take (j + 1)) := by
  subst hb hc
  rw [← List.take_append_getElem h]
  simp only [List.mem_append, List.mem_singleton, Bool.decide_or]
  congr 2
  exact propext eq_comm
set_option maxRecDepth 100000 in
set_option maxHeartbeats 16000000 in
theorem flatAll_any (z : Nat) (ao : Option Addr) (cap : Nat) (L : List AcF) (pk : Nat) (aO : Option Addr) (cO : Nat) (O : List UInt8) (w : World) (hz : z ≤ 255) (hpk : pk ≤ 255) (hL : AfAt w ao L) (hLn : L.length ≤ maxLen) (hA : ∀ x ∈ L, AcOk x) (hOc : O.length ≤ cO) (hOm : cO ≤ maxLen) (hO : BysF w aO O) : Calls Try.prog 5 #[.agg #[.int .u8 (z : Int), .slice ao L.length cap, .int .u8 (pk : Int), .slice aO O.length cO]] w fun e w' => e = .returned (.bool true) ∧ Below w.heap.size w w' := by
  obtain ⟨m, hm⟩ : ∃ m, z % 5 = m := ⟨_, rfl⟩
  have hm64 : m < 5 := by omega
  have hmod : (z : Int) % 5 = (m : Int) := by omega
  have htm : Int.tmod (z : Int) 5 = (m : Int) := by rw [Int.tmod_eq_emod_of_nonneg (by omega)]; exact hmod
  have hcv := conv_u8F m (by omega)
  have HPK := Lib.hid (conv_u8F pk hpk)
  obtain ⟨K, hK⟩ : ∃ K, m + 1 = K := ⟨_, rfl⟩
  have e1 : (m : Int) + 1 = (K : Int) := by omega
  have hK1 : 1 ≤ K := by omega
  have hK64 : K ≤ 5 := by omega
  have CN := Lib.hid (fun w => new_ok K w hK1 (by omega))
  have CZ := Lib.hid (fun w => zeros_anyF (48 * K) w (by omega))
  obtain ⟨q, hq⟩ : ∃ q, Hid (48 * K = q) := ⟨_, Lib.hid rfl⟩
  rw [hq.out] at CZ
  have e48 : (48 : Int) * (K : Int) = (q : Int) := by have := hq.out; omega
  have hR0 := R1.start hK1 (show K ≤ 64 by omega)
  have hch0 := Lib.hid (chT_start K hK1 (show K ≤ 64 by omega))
  rw [hq.out] at hR0 hch0
  have HR0 := Lib.hid hR0
  have HL := Lib.hid hL
  have HA := Lib.hid hA
  have HO := Lib.hid hO
  obtain ⟨nl, hnl⟩ : ∃ nl, Hid (L.length = nl) := ⟨_, Lib.hid rfl⟩
  obtain ⟨nO, hnO⟩ : ∃ nO, Hid (O.length = nO) := ⟨_, Lib.hid rfl⟩
  rw [hnl.out] at hLn ⊢
  rw [hnO.out] at hOc ⊢
  have hnlb : nl ≤ 9223372036854775807 := by unfold maxLen at hLn; omega
  have hcOb : cO ≤ 9223372036854775807 := by unfold maxLen at hOm; omega
  clear hL hA hR0 hm hK hLn hO hOm
  obtain ⟨is, his, sz0, sz1, sz2⟩ := info_partsF info_str'
  obtain ⟨w1, hw1⟩ : ∃ w1, w.alloc (.cells #[.int .u8 (z : Int), .slice ao nl cap, .int .u8 (pk : Int), .slice aO nO cO] 48) = w1 := ⟨_, rfl⟩
  have b1 : Below w.heap.size w w1 := by rw [← hw1]; exact (Below.refl _ _).alloc (Nat.le_refl _) _
  have x0 : w1.cell? ⟨w.heap.size, 0, none⟩ = some (.int .u8 (z : Int)) := by rw [← hw1]; exact World.cell?_alloc_at _ _ _ _ rfl
  have x1 : w1.cell? ⟨w.heap.size, 1, none⟩ = some (.slice ao nl cap) := by rw [← hw1]; exact World.cell?_alloc_at _ _ _ _ rfl
  have x2 : w1.cell? ⟨w.heap.size, 2, none⟩ = some (.int .u8 (pk : Int)) := by rw [← hw1]; exact World.cell?_alloc_at _ _ _ _ rfl
  have x3 : w1.cell? ⟨w.heap.size, 3, none⟩ = some (.slice aO nO cO) := by rw [← hw1]; exact World.cell?_alloc_at _ _ _ _ rfl
  have HBB := Lib.hid b1
  have HW1 := Lib.hid hw1
  obtain ⟨gb, hgb⟩ : ∃ gb, Hid (w.heap.size = gb) := ⟨_, Lib.hid rfl⟩
  rw [hgb.out] at x0 x1 x2 x3
  clear hw1 b1
  go_enter Try.func5, Try.ntmps5
  go_upto_region 1 with fail
  rw [HW1.out, hgb.out]
  clear HW1
  refine wp_region_lin (S := (fun w' => w'.cell? ⟨gb, 0, none⟩ = some (.int .u8 (z : Int)) ∧ w'.cell? ⟨gb, 1, none⟩ = some (.slice ao nl cap) ∧ w'.cell? ⟨gb, 2, none⟩ = some (.int .u8 (pk : Int)) ∧ w'.cell? ⟨gb, 3, none⟩ = some (.slice aO nO cO))) [(0, true), (1, true), (2, true), (3, true), (4, true), (5, true), (6, true), (7, true), (8, true), (9, true), (10, true), (11, true)] (by kernel_rfl) (by kernel_rfl) rfl (by kernel_rfl) ?_ (fun hHeld => ?_)
  · (try dsimp only); exact ⟨x0, x1, x2, x3⟩
  (refine wpL_calm (o := { dst := some 19, op := Go.Op.fieldAddr 48 (Go.Operand.tmp 1) 0, type := 0, pos := "law.go:147", after := #[], guard := none }) (v := ?_) rfl (Or.inl ⟨by rfl, ?_⟩) ?_; rotate_left; (focus (intro w hSw; (try dsimp only at hSw); go_simp; (try (with_reducible rfl)); done)); try simp only [Act.put, List.setIfInBounds_toArray, List.set_cons_zero, List.set_cons_succ])
  (refine wpL_calm (o := { dst := some 20, op := Go.Op.load 5 (Go.Operand.tmp 19), type := 5, pos := "law.go:147", after := #[{ on := 0, ground := Go.Ground.data }], guard := none }) (v := ?_) rfl (Or.inl ⟨by rfl, ?_⟩) ?_; rotate_left; (focus (intro w hSw; (try dsimp only at hSw); go_simp; (try (with_reducible rfl)); done)); try simp only [Act.put, List.setIfInBounds_toArray, List.set_cons_zero, List.set_cons_succ])
  (refine wpL_calm (o := { dst := some 21, op := Go.Op.fieldAddr 48 (Go.Operand.tmp 1) 1, type := 0, pos := "law.go:147", after := #[{ on := 8, ground := Go.Ground.gcOnly Go.Departure.lateStores }], guard := none }) (v := ?_) rfl (Or.inl ⟨by rfl, ?_⟩) ?_; rotate_left; (focus (intro w hSw; (try dsimp only at hSw); go_simp; (try (with_reducible rfl)); done)); try simp only [Act.put, List.setIfInBounds_toArray, List.set_cons_zero, List.set_cons_succ])
  (refine wpL_calm (o := { dst := some 22, op := Go.Op.load 22 (Go.Operand.tmp 21), type := 22, pos := "law.go:147", after := #[{ on := 2, ground := Go.Ground.data }, { on := 8, ground := Go.Ground.gcOnly Go.Departure.lateStores }], guard := none }) (v := ?_) rfl (Or.inl ⟨by rfl, ?_⟩) ?_; rotate_left; (focus (intro w hSw; (try dsimp only at hSw); go_simp; (try (with_reducible rfl)); done)); try simp only [Act.put, List.setIfInBounds_toArray, List.set_cons_zero, List.set_cons_succ])
  (refine wpL_calm (o := { dst := some 23, op := Go.Op.fieldAddr 48 (Go.Operand.tmp 1) 2, type := 0, pos := "law.go:147", after := #[{ on := 9, ground := Go.Ground.gcOnly Go.Departure.lateStores }], guard := none }) (v := ?_) rfl (Or.inl ⟨by rfl, ?_⟩) ?_; rotate_left; (focus (intro w hSw; (try dsimp only at hSw); go_simp; (try (with_reducible rfl)); done)); try simp only [Act.put, List.setIfInBounds_toArray, List.set_cons_zero, List.set_cons_succ])
  (refine wpL_calm (o := { dst := some 24, op := Go.Op.load 5 (Go.Operand.tmp 23), type := 5, pos := "law.go:147", after := #[{ on := 4, ground := Go.Ground.data }, { on := 9, ground := Go.Ground.gcOnly Go.Departure.lateStores }], guard := none }) (v := ?_) rfl (Or.inl ⟨by rfl, ?_⟩) ?_; rotate_left; (focus (intro w hSw; (try dsimp only at hSw); go_simp; (try (with_reducible rfl)); done)); try simp only [Act.put, List.setIfInBounds_toArray, List.set_cons_zero, List.set_cons_succ])
  (refine wpL_calm (o := { dst := some 25, op := Go.Op.fieldAddr 48 (Go.Operand.tmp 1) 3, type := 0, pos := "law.go:147", after := #[{ on := 10, ground := Go.Ground.gcOnly Go.Departure.lateStores }], guard := none }) (v := ?_) rfl (Or.inl ⟨by rfl, ?_⟩) ?_; rotate_left; (focus (intro w hSw; (try dsimp only at hSw); go_simp; (try (with_reducible rfl)); done)); try simp only [Act.put, List.setIfInBounds_toArray, List.set_cons_zero, List.set_cons_succ])
  (refine wpL_calm (o := { dst := some 26, op := Go.Op.load 46 (Go.Operand.tmp 25), type := 46, pos := "law.go:147", after := #[{ on := 6, ground := Go.Ground.data }, { on := 10, ground := Go.Ground.gcOnly Go.Departure.lateStores }], guard := none }) (v := ?_) rfl (Or.inl ⟨by rfl, ?_⟩) ?_; rotate_left; (focus (intro w hSw; (try dsimp only at hSw); go_simp; (try (with_reducible rfl)); done)); try simp only [Act.put, List.setIfInBounds_toArray, List.set_cons_zero, List.set_cons_succ])
  (refine wpL_calm (o := { dst := some 3, op := Go.Op.assign (Go.Operand.tmp 20), type := 5, pos := "law.go:147", after := #[{ on := 1, ground := Go.Ground.data }, { on := 0, ground := Go.Ground.phase }, { on := 1, ground := Go.Ground.phase }, { on := 2, ground := Go.Ground.textOnly Go.Departure.lateStores }, { on := 3, ground := Go.Ground.textOnly Go.Departure.lateStores }, { on := 4, ground := Go.Ground.textOnly Go.Departure.lateStores }, { on := 5, ground := Go.Ground.textOnly Go.Departure.lateStores }, { on := 6, ground := Go.Ground.textOnly Go.Departure.lateStores }, { on := 7, ground := Go.Ground.textOnly Go.Departure.lateStores }], guard := none }) (v := ?_) rfl (Or.inl ⟨by rfl, ?_⟩) ?_; rotate_left; (focus (intro w hSw; (try dsimp only at hSw); go_simp; (try (with_reducible rfl)); done)); try simp only [Act.put, List.setIfInBounds_toArray, List.set_cons_zero, List.set_cons_succ])
  (refine wpL_calm (o := { dst := some 4, op := Go.Op.assign (Go.Operand.tmp 22), type := 22, pos := "law.go:147", after := #[{ on := 3, ground := Go.Ground.data }, { on := 8, ground := Go.Ground.chain }, { on := 0, ground := Go.Ground.phase }, { on := 1, ground := Go.Ground.phase }, { on := 2, ground := Go.Ground.phase }, { on := 3, ground := Go.Ground.phase }, { on := 4, ground := Go.Ground.textOnly Go.Departure.lateStores }, { on := 5, ground := Go.Ground.textOnly Go.Departure.lateStores }, { on := 6, ground := Go.Ground.textOnly Go.Departure.lateStores }, { on := 7, ground := Go.Ground.textOnly Go.Departure.lateStores }, { on := 8, ground := Go.Ground.phase }], guard := none }) (v := ?_) rfl (Or.inl ⟨by rfl, ?_⟩) ?_; rotate_left; (focus (intro w hSw; (try dsimp only at hSw); go_simp; (try (with_reducible rfl)); done)); try simp only [Act.put, List.setIfInBounds_toArray, List.set_cons_zero, List.set_cons_succ])
  (refine wpL_calm (o := { dst := some 5, op := Go.Op.assign (Go.Operand.tmp 24), type := 5, pos := "law.go:147", after := #[{ on := 5, ground := Go.Ground.data }, { on := 9, ground := Go.Ground.chain }, { on := 0, ground := Go.Ground.phase }, { on := 1, ground := Go.Ground.phase }, { on := 2, ground := Go.Ground.phase }, { on := 3, ground := Go.Ground.phase }, { on := 4, ground := Go.Ground.phase }, { on := 5, ground := Go.Ground.phase }, { on := 6, ground := Go.Ground.textOnly Go.Departure.lateStores }, { on := 7, ground := Go.Ground.textOnly Go.Departure.lateStores }, { on := 8, ground := Go.Ground.phase }, { on := 9, ground := Go.Ground.phase }], guard := none }) (v := ?_) rfl (Or.inl ⟨by rfl, ?_⟩) ?_; rotate_left; (focus (intro w hSw; (try dsimp only at hSw); go_simp; (try (with_reducible rfl)); done)); try simp only [Act.put, List.setIfInBounds_toArray, List.set_cons_zero, List.set_cons_succ])
  (refine wpL_calm (o := { dst := some 6, op := Go.Op.assign (Go.Operand.tmp 26), type := 46, pos := "law.go:147", after := #[{ on := 7, ground := Go.Ground.data }, { on := 10, ground := Go.Ground.chain }, { on := 0, ground := Go.Ground.phase }, { on := 1, ground := Go.Ground.phase }, { on := 2, ground := Go.Ground.phase }, { on := 3, ground := Go.Ground.phase }, { on := 4, ground := Go.Ground.phase }, { on := 5, ground := Go.Ground.phase }, { on := 6, ground := Go.Ground.phase }, { on := 7, ground := Go.Ground.phase }, { on := 8, ground := Go.Ground.phase }, { on := 9, ground := Go.Ground.phase }, { on := 10, ground := Go.Ground.phase }], guard := none }) (v := ?_) rfl (Or.inl ⟨by rfl, ?_⟩) ?_; rotate_left; (focus (intro w hSw; (try dsimp only at hSw); go_simp; (try (with_reducible rfl)); done)); try simp only [Act.put, List.setIfInBounds_toArray, List.set_cons_zero, List.set_cons_succ])
  refine wpL_nil ?_
  refine NoPanic.normal ?_
  have HBB2 := Lib.hid HBB.out.drew
  generalize w1.drew = wa at *
  clear x0 x1 x2 x3 HBB
  go_wp2_with fail
  refine (CN.out wa).mono ?_
  rintro e w1 ⟨g, OL0, rfl, f1, b1⟩
  obtain ⟨B, hB⟩ : ∃ B, Hid (wa.heap.size = B) := ⟨_, Lib.hid rfl⟩
  have HwB : w.heap.size ≤ B := by rw [← hB.out]; exact HBB2.out.size
  rw [hB.out] at f1 b1
  have HB1 := Lib.hid (HBB2.out.trans (b1.mono HwB))
  have H1 := Lib.hid f1
  clear CN b1 f1 hcv hmod htm hHeld
  go_wp2_with fail
  refine (awake26 w1).mono ?_
  rintro e w2 ⟨rfl, b2⟩
  have HB2 := Lib.hid (HB1.out.trans (b2.mono HB1.out.size))
  have H2 := Lib.hid (H1.out.below b2)
  clear b2 HB1 H1
  go_wp2_with fail
  refine (CZ.out w2).mono ?_
  rintro e w3 ⟨rfl, b3⟩
  have HB3 := Lib.hid (HB2.out.trans (b3.mono HB2.out.size))
  have H3 := Lib.hid (H2.out.below b3)
  clear b3 HB2 H2 CZ
  obtain ⟨NB0, hNB0⟩ : ∃ NB0 : ByteArray, Hid (NB0 = ⟨(List.replicate q (0 : UInt8)).toArray⟩) := ⟨_, Lib.hid rfl⟩
  rw [← hNB0.out]
  obtain ⟨w4, hw4⟩ : ∃ w4, w3.alloc (.cells #[.string NB0] 9) = w4 := ⟨_, rfl⟩
  have b4 : Below w3.heap.size w3 w4 := by rw [← hw4]; exact (Below.refl _ _).alloc (Nat.le_refl _) _
  have HA0 := Lib.hid (AlR.one H3.out _ NB0 hNB0.out)
  rw [hw4, ← hch0.out] at HA0
  obtain ⟨g3, hg3⟩ : ∃ g3, Hid (w3.heap.size = g3) := ⟨_, Lib.hid rfl⟩
  rw [hg3.out] at HA0
  have H4 := Lib.hid (H3.out.below b4)
  have HB4 := Lib.hid (HB3.out.trans (b4.mono HB3.out.size))
  have HW4 := Lib.hid hw4
  clear b4 hw4 H3 HB3
  go_wp2_with fail
  (try rw [HW4.out])
  (try rw [hg3.out])
  go_loopw [10, 11, 12] (fun s8 sa s9 wi => ∃ (i : Nat) (M : Fl) (OL CL : List Nat) (f : List Nat) (now : List UInt8) (NB : ByteArray) (va : Option Addr) (nA ca : Nat), s9 = .int .i64 (i : Int) ∧ i ≤ 25 ∧ i ≤ nl ∧ s8 = .string NB ∧ sa = .slice va nA ca ∧ Hid ((chT M f).length = nA) ∧ Hid (NB = ⟨now.toArray⟩) ∧ Hid (FlW wi B g OL CL M) ∧ Hid (R1 K M f now) ∧ Hid (AlR wi B (.slice va nA ca) (chT M f) OL CL) ∧ M.T.length ≤ 1 + 100 * i ∧ M.C.length ≤ i ∧ Hid (Below w.heap.size w wi)) (fun _ _ s9 _ => 25 - (intOf s9).toNat)
  case atStart => (try rw [HW4.out]); (try rw [hg3.out]); exact ⟨0, newM K, OL0, [], zst, List.replicate q 0, NB0, some ⟨g3, 0, none⟩, 1, 1, rfl, by omega, by omega, rfl, rfl, Lib.hid (by rw [hch0.out]; rfl), hNB0, H4, HR0, HA0, by show 1 ≤ 1; omega, by show 0 ≤ 0; omega, HB4⟩
  case round =>
    obtain ⟨i, M, OL, CL, f, now, NB, va, nA, ca, rfl, hi, hin, rfl, rfl, hnA, hNB, HF, HR, HAL, hT, hC, HB⟩ := hrel
    clear H4 HR0 HB4 HA0 HW4
    by_cases hgo : (i : Int) < (nl : Int) ∧ (i : Int) < 25
    · as_aux_lemma =>
      obtain ⟨g1, g2⟩ := hgo
      have hiL : i < L.length := by rw [hnl.out]; omega
      obtain ⟨ga, oa, rfl, hga, hcc⟩ := HL.out (by omega)
      obtain ⟨c0, c1, c2, c3, c4⟩ := (hcc i hiL).below hga HB.out
      have hac := HA.out _ (List.getElem_mem hiL)
      obtain ⟨x, hx⟩ : ∃ x, Hid (L[i] = x) := ⟨_, Lib.hid rfl⟩
      rw [hx.out] at c0 c1 c2 c3 c4 hac
      obtain ⟨w4, HW4, r4, b4, s4⟩ := act_boxF wr x
      have H4 := Lib.hid (HF.out.below b4)
      have HA4 := Lib.hid (HAL.out.below b4)
      have HB4 := Lib.hid (HB.out.trans (b4.mono HB.out.size))
      have CD := Lib.hid (data_any x w4)
      have hacv : acV x = .agg #[.int .i64 x.k, .int .i64 x.a, .int .i64 x.n, .int .u8 (x.c.toNat : Int), .bool x.o] := rfl
      rw [hacv] at CD
      have hsb := datB_size x
      obtain ⟨s, hs⟩ : ∃ s, daB x = s := ⟨_, rfl⟩
      rw [hs] at CD hsb
      obtain ⟨gx, hgx⟩ : ∃ gx, Hid (wr.heap.size = gx) := ⟨_, Lib.hid rfl⟩
      rw [hgx.out] at r4
      have hgxl : gx < w4.heap.size := (Array.getElem?_eq_some_iff.1 r4).1
      obtain ⟨xk, xa, xn, xc, xo⟩ := x
      simp only at c0 c1 c2 c3 c4 r4 HW4 CD
      have k0 : w4.cell? ⟨gx, 0, none⟩ = some (.int .i64 xk) := cell_of_row w4 gx 0 _ _ _ r4
      have k1 : w4.cell? ⟨gx, 1, none⟩ = some (.int .i64 xa) := cell_of_row w4 gx 1 _ _ _ r4
      obtain ⟨ok1, ok2, ok3⟩ := hac
      simp only at ok1 ok2 ok3
      have hty4 : tyAt w4 gx = some 32 := tyAt_cells r4
      have k2 : w4.cell? ⟨gx, 2, none⟩ = some (.int .i64 xn) := cell_of_row w4 gx 2 _ _ _ r4
      have k3 : w4.cell? ⟨gx, 3, none⟩ = some (.int .u8 (xc.toNat : Int)) := cell_of_row w4 gx 3 _ _ _ r4
      have k4 : w4.cell? ⟨gx, 4, none⟩ = some (.bool xo) := cell_of_row w4 gx 4 _ _ _ r4
      clear hx hs hacv r4 b4 s4 HF HB hcc HAL
      go_upto_region 12 with fail
      rw [HW4.out, hgx.out]
      clear HW4 c0 c1 c2 c3 c4
      go_wp2_with fail
      refine CD.out.mono ?_
      rintro e w5 ⟨rfl, b5⟩
      have H5 := Lib.hid (H4.out.below b5)
      have HA5 := Lib.hid (HA4.out.below b5)
      have HB5 := Lib.hid (HB4.out.trans (b5.mono HB4.out.size))
      have k0 := (b5.cell (p := ⟨gx, 0, none⟩) hgxl).trans k0
      have k1 := (b5.cell (p := ⟨gx, 1, none⟩) hgxl).trans k1
      have hgx5 := Nat.lt_of_lt_of_le hgxl b5.size
      have hty : tyAt w5 gx = some 32 := (tyAt_same (b5.block gx hgxl)).trans hty4
      have HGX : Hid (gx ∉ OL) := Lib.hid (fun hm => H5.out.noact hty hm)
      have HGA := Lib.hid (HA5.out.noact hty)
      clear CD b5 H4 HB4 HA4 k2 k3 k4
      have hTT0 : M.T.length ≤ 1 + 100 * (i + 1) := by omega
      have hCT0 : M.C.length ≤ i + 1 := by omega
      by_cases hk012 : xk = 0 ∨ xk = 1 ∨ xk = 2
      · as_aux_lemma =>
        have hwn : wholeN s.size ≤ 70 := by unfold wholeN; split <;> omega
        by_cases hr : refF M.n xa (wholeN s.size : Int) = 0
        · as_aux_lemma =>
          have CW := Lib.hid (write_yes xa s H5.out HR.out.ok.n64 (by omega) hr (by omega) (by omega))
          obtain ⟨p1, p2, p3⟩ := refF_ok hr
          have hsz := whole_ok (n := s.size) p1
          obtain ⟨A, rfl⟩ : ∃ A : Nat, xa = (A : Int) := ⟨xa.toNat, by omega⟩
          obtain ⟨kk, hkk⟩ : ∃ kk, wholeN s.size = kk := ⟨_, rfl⟩
          rw [hkk, show ((A : Int)).toNat = A by omega] at CW
          rw [hkk] at p1 p3 hsz
          rw [HR.out.n] at p3
          have hls : s.data.toList.length = 48 * kk := by rw [Array.length_toList]; exact hsz
          have HRN := Lib.hid (HR.out.wr (a := A) (k := kk) hls (by omega) (by omega))
          have hcw := chT_wr HR.out (a := A) (k := kk) hls (by omega) (by omega)
          obtain ⟨MT, hMT⟩ : ∃ MT, wrM M A s.data.toList kk = MT := ⟨_, rfl⟩
          have hml := wrM_len M A s.data.toList kk
          rw [hMT] at CW HRN hml hcw
          have HCW := Lib.hid hcw
          clear hcw
          have hTT : MT.T.length ≤ 1 + 100 * (i + 1) := by omega
          have hCT : MT.C.length ≤ i + 1 := by omega
          have hNs : NB.size = q := by rw [hNB.out, bytes_size, HR.out.len]; exact hq.out
          have hqK := hq.out
          have hwa : ∀ n : Nat, n ≤ 100000 → IntKind.i64.wrap (n : Int) = (n : Int) := fun n hn => by rw [IntKind.wrap_i64]; omega
          obtain ⟨qa, hqa⟩ : ∃ qa, 48 * A = qa := ⟨_, rfl⟩
          have ea : (48 : Int) * (A : Int) = (qa : Int) := by omega
          obtain ⟨qb, hqb⟩ : ∃ qb, qa + s.size = qb := ⟨_, rfl⟩
          have eb : (qa : Int) + (s.size : Int) = (qb : Int) := by omega
          have l1 : (qa : Int) ≤ (q : Int) := by omega
          have l2 : (qb : Int) ≤ (q : Int) := by omega
          have wa := hwa qa (by omega)
          have wb := hwa qb (by omega)
          clear hwa
          have l0 : (0 : Int) ≤ (qa : Int) := by omega
          have l3 : (0 : Int) ≤ (qb : Int) := by omega
          obtain ⟨X1, hX1⟩ : ∃ X1, NB.extract 0 qa = X1 := ⟨_, rfl⟩
          obtain ⟨X2, hX2⟩ : ∃ X2, NB.extract qb q = X2 := ⟨_, rfl⟩
          have hx1 : X1.size = qa := by rw [← hX1, ByteArray.size_extract]; omega
          have hx2 : X2.size ≤ 48 * K := by rw [← hX2, ByteArray.size_extract]; omega
          have hX2' : NB.extract qb NB.size = X2 := by rw [hNs]; exact hX2
          have hc1 : (9223372036854775807 < X1.size + s.size) = False := by simp; omega
          have hc2 : (9223372036854775807 < (X1 ++ s).size + X2.size) = False := by rw [ByteArray.size_append]; simp; omega
          have hc2' : (9223372036854775807 < X1.size + s.size + X2.size) = False := by simp; omega
          have hNBN : Hid (X1 ++ s ++ X2 = ⟨(now.take (48 * A) ++ (s.data.toList ++ now.drop (48 * A + 48 * kk))).toArray⟩) := Lib.hid (by rw [← hX1, ← hX2', hNB.out]; exact cat_now now s A kk qa qb (by omega) (by omega))
          obtain ⟨nowN, hnowN⟩ : ∃ nowN, (now.take (48 * A) ++ (s.data.toList ++ now.drop (48 * A + 48 * kk))) = nowN := ⟨_, rfl⟩
          rw [hnowN] at hNBN HRN HCW
          have hAlen : (chT MT f).length = nA + 1 := by rw [HCW.out, List.length_append, hnA.out]; rfl
          have HAN := Lib.hid hAlen
          have hnA1 : nA ≤ i + 1 := by have := hnA.out; rw [chT_len] at this; omega
          clear hMT hls hml hkk p1 p2 p3 hr hwn hqa hqb hsz hX2' hqK hx1 hx2 hnowN hAlen
          rcases hk012 with rfl | rfl | rfl
          all_goals
            go_wp2_with fail
            refine CW.out.mono ?_
            rintro e w6 ⟨rfl, OL6, CL6, f6, kq6, n6, m6⟩
            have H6 := Lib.hid f6
            have HA6 := Lib.hid (HA5.out.fls kq6 n6 m6)
            have HS6 := Lib.hid kq6.below.size
            have HB6 := Lib.hid (HB5.out.trans (kq6.below.mono HwB))
            have j1 : w6.cell? ⟨gx, 1, none⟩ = some (.int .i64 (A : Int)) := (kq6.other_cell hgx5 HGX.out).trans k1
            have j0 := (kq6.other_cell hgx5 HGX.out).trans k0
            clear CW f6 kq6 n6 m6
            have h6l : gx < w6.heap.size := Nat.lt_of_lt_of_le hgx5 HS6.out
            go_upto_region 14 with fail
            refine wp_region_lin_all (S := (fun w' => w'.cell? ⟨gx, 1, none⟩ = some (.int .i64 (A : Int)))) [(0, true), (1, true), (2, true), (3, true), (4, true), (5, true), (6, true), (7, true), (8, true), (9, true), (10, true), (11, true), (12, true), (13, true), (14, true), (15, true), (16, true)] (by kernel_rfl) (by kernel_rfl) rfl (by kernel_rfl) ?_ (fun hHeld => ?_)
            · (try dsimp only); exact j1
            (refine wpL_calm (o := { dst := some 83, op := Go.Op.move (Go.Operand.tmp 10), type := 9, pos := "law.go:159", after := #[], guard := none }) (v := ?_) rfl (Or.inl ⟨by rfl, ?_⟩) ?_; rotate_left; (focus (intro w hSw; (try dsimp only at hSw); go_simp; (try (with_reducible rfl)); done)); try simp only [Act.put, List.setIfInBounds_toArray, List.set_cons_zero, List.set_cons_succ])
            (refine wpL_calm (o := { dst := some 84, op := Go.Op.fieldAddr 32 (Go.Operand.tmp 13) 1, type := 0, pos := "law.go:159", after := #[], guard := none }) (v := ?_) rfl (Or.inl ⟨by rfl, ?_⟩) ?_; rotate_left; (focus (intro w hSw; (try dsimp only at hSw); go_simp; (try (with_reducible rfl)); done)); try simp only [Act.put, List.setIfInBounds_toArray, List.set_cons_zero, List.set_cons_succ])
            (refine wpL_calm (o := { dst := some 85, op := Go.Op.load 3 (Go.Operand.tmp 84), type := 3, pos := "law.go:159", after := #[{ on := 1, ground := Go.Ground.data }], guard := none }) (v := ?_) rfl (Or.inl ⟨by rfl, ?_⟩) ?_; rotate_left; (focus (intro w hSw; (try dsimp only at hSw); go_simp; (try (with_reducible rfl)); done)); try simp only [Act.put, List.setIfInBounds_toArray, List.set_cons_zero, List.set_cons_succ])
            (refine wpL_calm (o := { dst := some 86, op := Go.Op.binOp Go.BinOp.mul 3 (Go.Operand.const (Go.Value.int Go.IntKind.i64 48)) (Go.Operand.tmp 85) 3, type := 3, pos := "law.go:159", after := #[{ on := 2, ground := Go.Ground.data }], guard := none }) (v := ?_) rfl (Or.inl ⟨by rfl, ?_⟩) ?_; rotate_left; (focus (intro w hSw; (try dsimp only at hSw); go_simp; (try (with_reducible rfl)); done)); try simp only [Act.put, List.setIfInBounds_toArray, List.set_cons_zero, List.set_cons_succ])
            (refine wpL_calm (o := { dst := some 87, op := Go.Op.slice 9 (Go.Operand.tmp 83) none (some (Go.Operand.tmp 86)) none, type := 9, pos := "law.go:159", after := #[{ on := 0, ground := Go.Ground.data }, { on := 3, ground := Go.Ground.data }], guard := none }) (v := ?_) rfl (Or.inl ⟨by rfl, ?_⟩) ?_; rotate_left; (focus (intro w hSw; (try dsimp only at hSw); go_simp; (try (with_reducible rfl)); done)); try simp only [Act.put, List.setIfInBounds_toArray, List.set_cons_zero, List.set_cons_succ])
            (refine wpL_calm (o := { dst := some 88, op := Go.Op.move (Go.Operand.tmp 14), type := 9, pos := "law.go:159", after := #[], guard := none }) (v := ?_) rfl (Or.inl ⟨by rfl, ?_⟩) ?_; rotate_left; (focus (intro w hSw; (try dsimp only at hSw); go_simp; (try (with_reducible rfl)); done)); try simp only [Act.put, List.setIfInBounds_toArray, List.set_cons_zero, List.set_cons_succ])
            (refine wpL_calm (o := { dst := some 89, op := Go.Op.binOp Go.BinOp.add 9 (Go.Operand.tmp 87) (Go.Operand.tmp 88) 9, type := 9, pos := "law.go:159", after := #[{ on := 4, ground := Go.Ground.data }, { on := 5, ground := Go.Ground.data }], guard := none }) (v := ?_) rfl (Or.inl ⟨by rfl, ?_⟩) ?_; rotate_left; (focus (intro w hSw; (try dsimp only at hSw); go_simp; (try (with_reducible rfl)); done)); try simp only [Act.put, List.setIfInBounds_toArray, List.set_cons_zero, List.set_cons_succ])
            (refine wpL_calm (o := { dst := some 90, op := Go.Op.move (Go.Operand.tmp 10), type := 9, pos := "law.go:159", after := #[], guard := none }) (v := ?_) rfl (Or.inl ⟨by rfl, ?_⟩) ?_; rotate_left; (focus (intro w hSw; (try dsimp only at hSw); go_simp; (try (with_reducible rfl)); done)); try simp only [Act.put, List.setIfInBounds_toArray, List.set_cons_zero, List.set_cons_succ])
            (refine wpL_calm (o := { dst := some 91, op := Go.Op.fieldAddr 32 (Go.Operand.tmp 13) 1, type := 0, pos := "law.go:159", after := #[], guard := none }) (v := ?_) rfl (Or.inl ⟨by rfl, ?_⟩) ?_; rotate_left; (focus (intro w hSw; (try dsimp only at hSw); go_simp; (try (with_reducible rfl)); done)); try simp only [Act.put, List.setIfInBounds_toArray, List.set_cons_zero, List.set_cons_succ])
            (refine wpL_calm (o := { dst := some 92, op := Go.Op.load 3 (Go.Operand.tmp 91), type := 3, pos := "law.go:159", after := #[{ on := 8, ground := Go.Ground.data }], guard := none }) (v := ?_) rfl (Or.inl ⟨by rfl, ?_⟩) ?_; rotate_left; (focus (intro w hSw; (try dsimp only at hSw); go_simp; (try (with_reducible rfl)); done)); try simp only [Act.put, List.setIfInBounds_toArray, List.set_cons_zero, List.set_cons_succ])
            (refine wpL_calm (o := { dst := some 93, op := Go.Op.binOp Go.BinOp.mul 3 (Go.Operand.const (Go.Value.int Go.IntKind.i64 48)) (Go.Operand.tmp 92) 3, type := 3, pos := "law.go:159", after := #[{ on := 9, ground := Go.Ground.data }], guard := none }) (v := ?_) rfl (Or.inl ⟨by rfl, ?_⟩) ?_; rotate_left; (focus (intro w hSw; (try dsimp only at hSw); go_simp; (try (with_reducible rfl)); done)); try simp only [Act.put, List.setIfInBounds_toArray, List.set_cons_zero, List.set_cons_succ])
            (refine wpL_calm (o := { dst := some 94, op := Go.Op.move (Go.Operand.tmp 14), type := 9, pos := "law.go:159", after := #[], guard := none }) (v := ?_) rfl (Or.inl ⟨by rfl, ?_⟩) ?_; rotate_left; (focus (intro w hSw; (try dsimp only at hSw); go_simp; (try (with_reducible rfl)); done)); try simp only [Act.put, List.setIfInBounds_toArray, List.set_cons_zero, List.set_cons_succ])
            (refine wpL_calm (o := { dst := some 95, op := Go.Op.call { callee := Go.Callee.builtin Go.Builtin.len, args := #[Go.Operand.tmp 94], argTypes := #[9] }, type := 3, pos := "law.go:159", after := #[{ on := 11, ground := Go.Ground.data }], guard := none }) (v := ?_) rfl (Or.inl ⟨by rfl, ?_⟩) ?_; rotate_left; (focus (intro w hSw; (try dsimp only at hSw); go_simp; (try (with_reducible rfl)); done)); try simp only [Act.put, List.setIfInBounds_toArray, List.set_cons_zero, List.set_cons_succ])
            (refine wpL_calm (o := { dst := some 96, op := Go.Op.binOp Go.BinOp.add 3 (Go.Operand.tmp 93) (Go.Operand.tmp 95) 3, type := 3, pos := "law.go:159", after := #[{ on := 10, ground := Go.Ground.data }, { on := 12, ground := Go.Ground.data }], guard := none }) (v := ?_) rfl (Or.inl ⟨by rfl, ?_⟩) ?_; rotate_left; (focus (intro w hSw; (try dsimp only at hSw); go_simp; (try (with_reducible rfl)); done)); try simp only [Act.put, List.setIfInBounds_toArray, List.set_cons_zero, List.set_cons_succ])
            (refine wpL_calm (o := { dst := some 97, op := Go.Op.slice 9 (Go.Operand.tmp 90) (some (Go.Operand.tmp 96)) none none, type := 9, pos := "law.go:159", after := #[{ on := 7, ground := Go.Ground.data }, { on := 13, ground := Go.Ground.data }], guard := none }) (v := ?_) rfl (Or.inl ⟨by rfl, ?_⟩) ?_; rotate_left; (focus (intro w hSw; (try dsimp only at hSw); go_simp; (try (with_reducible rfl)); done)); try simp only [Act.put, List.setIfInBounds_toArray, List.set_cons_zero, List.set_cons_succ])
            (refine wpL_calm (o := { dst := some 98, op := Go.Op.binOp Go.BinOp.add 9 (Go.Operand.tmp 89) (Go.Operand.tmp 97) 9, type := 9, pos := "law.go:159", after := #[{ on := 6, ground := Go.Ground.data }, { on := 14, ground := Go.Ground.data }], guard := none }) (v := ?_) rfl (Or.inl ⟨by rfl, ?_⟩) ?_; rotate_left; (focus (intro w hSw; (try dsimp only at hSw); go_simp; (try (with_reducible rfl)); done)); try simp only [Act.put, List.setIfInBounds_toArray, List.set_cons_zero, List.set_cons_succ])
            (refine wpL_calm (o := { dst := some 10, op := Go.Op.assign (Go.Operand.tmp 98), type := 9, pos := "law.go:159", after := #[{ on := 15, ground := Go.Ground.data }, { on := 0, ground := Go.Ground.phase }, { on := 1, ground := Go.Ground.phase }, { on := 2, ground := Go.Ground.phase }, { on := 3, ground := Go.Ground.phase }, { on := 4, ground := Go.Ground.phase }, { on := 5, ground := Go.Ground.phase }, { on := 6, ground := Go.Ground.phase }, { on := 7, ground := Go.Ground.phase }, { on := 8, ground := Go.Ground.phase }, { on := 9, ground := Go.Ground.phase }, { on := 10, ground := Go.Ground.phase }, { on := 11, ground := Go.Ground.phase }, { on := 12, ground := Go.Ground.phase }, { on := 13, ground := Go.Ground.phase }, { on := 14, ground := Go.Ground.phase }, { on := 15, ground := Go.Ground.phase }], guard := none }) (v := ?_) rfl (Or.inl ⟨by rfl, ?_⟩) ?_; rotate_left; (focus (intro w hSw; (try dsimp only at hSw); go_simp; (try (with_reducible rfl)); done)); try simp only [Act.put, List.setIfInBounds_toArray, List.set_cons_zero, List.set_cons_succ])
            refine wpL_nil ?_
            refine NoPanic.normal ?_
            have HD6 := Lib.hid (H6.out.below (Below.refl w6.heap.size w6).drew)
            have HAD := Lib.hid (HA6.out.below (Below.refl w6.heap.size w6).drew)
            have HBD := Lib.hid HB6.out.drew
            have j0 : w6.drew.cell? ⟨gx, 0, none⟩ = _ := j0
            have h7l : gx < w6.drew.heap.size := h6l
            generalize w6.drew = w7 at *
            obtain ⟨NBT, hNBT⟩ : ∃ NBT, X1 ++ s ++ X2 = NBT := ⟨_, rfl⟩
            rw [hNBT] at hNBN
            try rw [hNBT]
            clear hX1 hX2 hHeld H6 HB6 j1 hNs ea eb hc1 hc2 hc2' HA6
            obtain ⟨w8, hw8⟩ : ∃ w8, w7.alloc (.cells #[.string NBT] 9) = w8 := ⟨_, rfl⟩
            have b8 : Below w7.heap.size w7 w8 := by rw [← hw8]; exact (Below.refl _ _).alloc (Nat.le_refl _) _
            have H8 := Lib.hid (HD6.out.below b8)
            have HA8 := Lib.hid (HAD.out.below b8)
            have HB8 := Lib.hid (HBD.out.trans (b8.mono HBD.out.size))
            have hsrc := src_str (w := w7) NBT
            rw [hw8] at hsrc
            have hrow := HA8.out.1
            rw [hnA.out] at hrow
            have o1 : nA + 1 ≤ maxLen := by unfold maxLen; omega
            have o2 : (nA + 1) * 16 ≤ 140737488355328 := by omega
            have o3 : B ≤ w8.heap.size := H8.out.bw
            have k8 := (b8.cell (p := ⟨gx, 0, none⟩) h7l).trans j0
            have HW8 := Lib.hid hw8
            have h8l := Nat.lt_of_lt_of_le h7l b8.size
            clear hw8 b8 HD6 HAD HBD j0 h7l h6l
            go_wp2_with (at_builtin; rw [HW8.out]; refine wpList_append_src2 _ rfl _ _ 49 49 rfl B 9 is (.string ⟨#[]⟩) 1 16 Try.underlying49 his sz0 sz1 sz2 rfl (by decide) (.slice va nA ca) nA (strF (chT M f)) rfl hrow _ 1 [.string NBT] rfl hsrc o1 o2 o3 ?_; intro v9 w9 O9 G9 L9; obtain ⟨a9, c9, rfl⟩ := own_slF O9; have k9 := (World.cell?_of_block (a := ⟨gx, 0, none⟩) (G9.block gx h8l (fun e => HGA.out e.symm))).trans k8)
            obtain ⟨A9, F9, b9⟩ := AlR.grow (l := nowN) HA8.out H8.out (by rw [hnA.out, ← hNBN.out]; exact O9) G9 L9
            have H9 := Lib.hid F9
            have HA9 := Lib.hid A9
            rw [← HCW.out] at HA9
            have HB9 := Lib.hid (HB8.out.trans (b9.mono HwB))
            clear O9 G9 L9 A9 F9 b9 hsrc hrow o1 o2 o3 k8
            go_roundw
            case rel => exact ⟨i + 1, MT, OL6, CL6, f, nowN, NBT, a9, nA + 1, c9, by go_num, by omega, by omega, rfl, rfl, HAN, hNBN, H9, HRN, HA9, hTT, hCT, HB9⟩
            case measure => simp [intOf]; omega
        · as_aux_lemma =>
          have CW := Lib.hid (write_no xa s H5.out HR.out.ok.n64 (by omega) hr)
          obtain ⟨r, hrr⟩ : ∃ r, refF M.n xa (wholeN s.size : Int) = r := ⟨_, rfl⟩
          rw [hrr] at CW hr
          have hr1 : (r == 0) = false := by simpa using hr
          clear hrr hr hwn
          rcases hk012 with rfl | rfl | rfl
          all_goals
            go_wp2_with fail
            refine CW.out.mono ?_
            rintro e w' ⟨rfl, rfl⟩
            go_wp2_with fail
            go_roundw
            case rel => exact ⟨i + 1, M, OL, CL, f, now, NB, va, nA, ca, by go_num, by omega, by omega, rfl, rfl, hnA, hNB, H5, HR, HA5, hTT0, hCT0, HB5⟩
            case measure => simp [intOf]; omega
      · as_aux_lemma =>
        by_cases h6 : xk = 6
        · as_aux_lemma =>
          subst h6
          clear hk012
          have CW := Lib.hid (safe_any H5.out HR.out.ok.n64 HR.out.ok.ch HR.out.ok.f64 (by omega) (by rw [HR.out.F]; simp))
          have HRN := Lib.hid HR.out.safe
          have HCS := Lib.hid (chT_safe HR.out)
          obtain ⟨MT, hMT⟩ : ∃ MT : Fl, ({ M with F := M.F.map (foldC M.C), C := [] } : Fl) = MT := ⟨_, rfl⟩
          have hTT : MT.T.length ≤ 1 + 100 * (i + 1) := by rw [← hMT]; exact hTT0
          have hCT : MT.C.length ≤ i + 1 := by rw [← hMT]; exact Nat.zero_le _
          rw [hMT] at CW HRN HCS
          clear hMT
          generalize foldC M.C f = fT at *
          go_wp2_with fail
          refine CW.out.mono ?_
          rintro e w6 ⟨rfl, OL6, CL6, f6, kq6, _, _⟩
          have H6 := Lib.hid f6
          have HB6 := Lib.hid (HB5.out.trans (kq6.below.mono HwB))
          clear CW f6 kq6
          obtain ⟨w7, hw7⟩ : ∃ w7, w6.alloc (.cells #[.string NB] 9) = w7 := ⟨_, rfl⟩
          have b7 : Below w6.heap.size w6 w7 := by rw [← hw7]; exact (Below.refl _ _).alloc (Nat.le_refl _) _
          have HA7 := Lib.hid (AlR.one H6.out _ NB hNB.out)
          rw [hw7, ← HCS.out] at HA7
          obtain ⟨g6, hg6⟩ : ∃ g6, Hid (w6.heap.size = g6) := ⟨_, Lib.hid rfl⟩
          rw [hg6.out] at HA7
          have H7 := Lib.hid (H6.out.below b7)
          have HB7 := Lib.hid (HB6.out.trans (b7.mono HB6.out.size))
          have HW7 := Lib.hid hw7
          clear b7 hw7 H6 HB6
          go_wp2_with fail
          (try rw [HW7.out])
          (try rw [hg6.out])
          go_roundw
          case rel => (try rw [HW7.out]); (try rw [hg6.out]); exact ⟨i + 1, MT, OL6, CL6, fT, now, NB, some ⟨g6, 0, none⟩, 1, 1, by go_num, by omega, by omega, rfl, rfl, Lib.hid (by rw [HCS.out]; rfl), hNB, H7, HRN, HA7, hTT, hCT, HB7⟩
          case measure => simp [intOf]; omega
        · as_aux_lemma =>
          have h6' : (xk == 6) = false := by simpa using h6
          by_cases hneg : 0 ≤ xk
          · as_aux_lemma =>
            have h3 : ¬ xk < 3 := by omega
            clear h6 hk012
            go_wp2_with fail
            go_roundw
            case rel => exact ⟨i + 1, M, OL, CL, f, now, NB, va, nA, ca, by go_num, by omega, by omega, rfl, rfl, hnA, hNB, H5, HR, HA5, hTT0, hCT0, HB5⟩
            case measure => simp [intOf]; omega
          · as_aux_lemma =>
            clear h6 hk012
            go_wp2_with fail
            go_roundw
            case rel => exact ⟨i + 1, M, OL, CL, f, now, NB, va, nA, ca, by go_num, by omega, by omega, rfl, rfl, hnA, hNB, H5, HR, HA5, hTT0, hCT0, HB5⟩
            case measure => simp [intOf]; omega
    · as_aux_lemma =>
      by_cases g1 : (i : Int) < (nl : Int)
      · as_aux_lemma =>
        have g2 : ¬ (i : Int) < 25 := fun h => hgo ⟨g1, h⟩
        have hnp : 0 < nA := by rw [← hnA.out, chT_len]; omega
        have hnA30 : nA ≤ 30 := by rw [← hnA.out, chT_len]; omega
        have HCC := Lib.hid (crash_any HF.out HR.out.ok (by omega) (by rw [HR.out.F]; simp) (by rw [HR.out.F]; simp; omega) (by omega))
        have HOK : Hid (FlOk (crM M)) := Lib.hid (crash_ok HR.out.ok)
        have hcl := crM_len HR.out
        go_wp2_with fail
        refine HCC.out.mono ?_
        rintro e w2 ⟨rfl, OL2, CL2, f2, kq2, n2, m2⟩
        have H2 : Hid (FlW w2 B g OL2 CL2 (crM M)) := Lib.hid f2
        have HA2 := Lib.hid (HAL.out.fls kq2 n2 m2)
        have HB2 := Lib.hid (HB.out.trans (kq2.below.mono HwB))
        clear HCC f2 kq2 n2 m2 HF HB HAL
        have CP := Lib.hid (copy_any H2.out HOK.out (by show M.T.length ≤ _; omega) (by omega) (by show 0 ≤ _; omega))
        go_wp2_with fail
        refine CP.out.mono ?_
        rintro e w3 ⟨gc, OLc, rfl, f3, b3⟩
        have H3 := Lib.hid (H2.out.below b3)
        have HA3 := Lib.hid (HA2.out.below b3)
        have HB3 := Lib.hid (HB2.out.trans (b3.mono HB2.out.size))
        have HC3 := Lib.hid f3
        have HwC := HB2.out.size
        have HDJ : Hid ((∀ j ∈ OLc, j ∉ OL2) ∧ (∀ j ∈ CL2, j ∉ OL2)) := Lib.hid ⟨fun j h1 h2 => (by have a1 := (f3.own_lt h1).2; have a2 := (H2.out.own_lt h2).1; omega), fun j h1 => H2.out.noint (H2.out.ch_ty h1).2⟩
        obtain ⟨gA, cA, hve, hcA, hBA, hgA, hcell⟩ := HA3.out.cell (by rw [hnA.out]; omega)
        rw [hnA.out] at hve hcA
        cases hve
        clear CP b3 f3 HA2 HB2 H2
        obtain ⟨j, hj⟩ : ∃ j, pk % nA = j := ⟨_, rfl⟩
        have hjn : j < nA := by rw [← hj]; exact Nat.mod_lt _ hnp
        have htm : Int.tmod (pk : Int) (nA : Int) = (j : Int) := by
          rw [Int.tmod_eq_emod_of_nonneg (by omega)]
          have h0 : (pk : Int) % ((nA : Nat) : Int) = ((pk % nA : Nat) : Int) := by first | exact (Int.natCast_emod pk nA).symm | exact (Int.ofNat_emod pk nA).symm | rfl
          rw [hj] at h0
          exact h0
        have hn0 : ¬ (nA : Int) = 0 := by omega
        have hjl : j < (chT M f).length := by rw [hnA.out]; exact hjn
        have hcj := hcell j hjl
        obtain ⟨S, hS⟩ : ∃ S : ByteArray, (⟨((chT M f)[j]).toArray⟩ : ByteArray) = S := ⟨_, rfl⟩
        rw [hS] at hcj
        have hSm : S.data.toList ∈ chT M f := by rw [← hS]; exact List.getElem_mem hjl
        obtain ⟨s1, s2⟩ := saw_one HR.out hSm
        have hSs : S.size ≤ 1000000 := by have h1 := chT_size HR.out hSm; rw [Array.length_toList] at h1; have h2 : S.size = S.data.size := rfl; omega
        have CS := Lib.hid (saw_any 0 S H3.out HOK.out.n64 hSs HOK.out.ch (by show 0 ≤ _; omega) HOK.out.f64 (by omega))
        rw [s1] at CS
        have HCL := Lib.hid hcell
        have hcvp := HPK.out
        have hji : (j : Int) < (nA : Int) := by omega
        clear hS hSm hcell hj hjl s1 hSs
        go_wp2_with fail
        refine CS.out.mono ?_
        rintro e w4 ⟨rfl, OL4, CL4, f4, kq4, n4, m4⟩
        have H4 := Lib.hid f4
        have HB4 := Lib.hid (HB3.out.trans (kq4.below.mono HwB))
        have HC4 := Lib.hid (HC3.out.kq kq4 HDJ.out.1 HDJ.out.2)
        have HC4C : Hid (∀ i (hi : i < (chT M f).length), w4.cell? ⟨gA, i, none⟩ = some (.string ⟨((chT M f)[i]).toArray⟩)) := Lib.hid (fun i hi => kq4.cell (HA3.out.2 gA rfl).1 (HCL.out i hi))
        have hgA4 : gA < w4.heap.size := Nat.lt_of_lt_of_le hgA kq4.below.size
        have CWD := Lib.hid (fun u (h : FlW u B g OL4 CL4 (sawM (crM M) 0 S)) => worlds_any h)
        rw [s2] at CWD
        have hn1 : (((1 : Nat)) : Int) = 1 := rfl
        rw [hn1] at CWD
        clear hn1 CS f4 kq4 n4 m4 H3 HA3 HB3 HC3 HDJ HCL hcj htm hcvp hcA hBA hgA s2
        go_wp2_with fail
        refine (CWD.out w4 H4.out).mono ?_
        rintro e w' ⟨rfl, rfl⟩
        clear CWD H4
        have HO4 := Lib.hid (HO.out.below HB4.out)
        by_cases h4 : 400 < nO
        · as_aux_lemma =>
          have hcvt := HO4.out.conv 400 cO (by rw [hnO.out]; omega)
          have h4i : (400 : Int) < (nO : Int) := by omega
          have h4c : (400 : Int) ≤ (cO : Int) := by omega
          obtain ⟨SO, hSO⟩ : ∃ SO, (⟨(O.take 400).toArray⟩ : ByteArray) = SO := ⟨_, rfl⟩
          rw [hSO] at hcvt
          have hSOs : SO.size ≤ 400 := by rw [← hSO, bytes_size, List.length_take]; omega
          have hq5 : q ≤ 240 := by have := hq.out; omega
          clear hSO
          obtain ⟨T, ht1, ht2, hcf⟩ := full_any SO q w4 (by omega) (by omega)
          have CF := Lib.hid hcf
          clear hcf
          go_wp2_with fail
          refine CF.out.mono ?_
          rintro e w5 ⟨rfl, b5⟩
          have HB5 := Lib.hid (HB4.out.trans (b5.mono HB4.out.size))
          have HC := Lib.hid (HC4.out.below b5)
          have HC5 : Hid (∀ i (hi : i < (chT M f).length), w5.cell? ⟨gA, i, none⟩ = some (.string ⟨((chT M f)[i]).toArray⟩)) := Lib.hid (fun i hi => (b5.cell (p := ⟨gA, i, none⟩) hgA4).trans (HC4C.out i hi))
          clear CF b5 HB4 HC4 HC4C
          by_cases hTq : q < T.size
          · as_aux_lemma =>
            obtain ⟨X, hX⟩ : ∃ X, T.extract 0 q = X := ⟨_, rfl⟩
            have hXs : X.size = q := by rw [← hX, ByteArray.size_extract]; omega
            have hT1 : (q : Int) < (T.size : Int) := by omega
            have hT2 : (q : Int) ≤ (T.size : Int) := by omega
            have hT3 : (0 : Int) ≤ (q : Int) := by omega
            go_upto_region 28 with fail
            (try rw [hX])
            clear hX hT1 hT2 hT3 hTq ht1 ht2
            have HXS := Lib.hid hXs
            clear hXs
            have HQC := Lib.hid hq.out
            go_wp2_with fail
            go_loopw [17, 18] (fun si sj wi => ∃ (b : Bool) (j : Nat), si = .bool b ∧ sj = .int .i64 (j : Int) ∧ j ≤ nA ∧ Hid (b = decide (X.data.toList ∈ (chT M f).take j)) ∧ wi = w5) (fun _ sj _ => nA - (intOf sj).toNat)
            case atStart => exact ⟨false, 0, rfl, rfl, by omega, Lib.hid (by simp), rfl⟩
            case round =>
              obtain ⟨b, j, rfl, rfl, hj, hb, rfl⟩ := hrel
              by_cases hjn : j < nA
              · as_aux_lemma =>
                have hjl : j < (chT M f).length := by rw [hnA.out]; exact hjn
                have hcj := HC5.out j hjl
                obtain ⟨Y, hY⟩ : ∃ Y : ByteArray, Hid ((⟨((chT M f)[j]).toArray⟩ : ByteArray) = Y) := ⟨_, Lib.hid rfl⟩
                rw [hY.out] at hcj
                have hji : (j : Int) < (nA : Int) := by omega
                rcases b with _ | _
                · by_cases hYX : Y = X
                  · have hin := Lib.hid (in_take hjl hb.out (c := true) (by
                      have : (chT M f)[j] = X.data.toList := by rw [← hYX, ← hY.out]
                      simp [this]))
                    clear hY
                    subst hYX
                    go_wp2_with fail
                    go_roundw
                    case rel => exact ⟨true, j + 1, by first | rfl | simp, by go_num, by omega, hin, by trivial⟩
                    case measure => simp [intOf]; omega
                  · have hin := Lib.hid (in_take hjl hb.out (c := false) (by
                      have : (chT M f)[j] ≠ X.data.toList := fun e => hYX (by rw [← hY.out, e])
                      simp [this]))
                    go_wp2_with fail
                    go_roundw
                    case rel => exact ⟨false, j + 1, by first | rfl | (simp; exact fun e => hYX (ba_toL _ _ e)), by go_num, by omega, hin, by trivial⟩
                    case measure => simp [intOf]; omega
                · have hin := Lib.hid (in_take hjl hb.out (c := decide ((chT M f)[j] = X.data.toList)) rfl)
                  go_wp2_with fail
                  go_roundw
                  case rel => exact ⟨true, j + 1, rfl, by go_num, by omega, Lib.hid (by rw [← hin.out]; rfl), by trivial⟩
                  case measure => simp [intOf]; omega
              · as_aux_lemma =>
                obtain rfl : j = nA := by omega
                have hnl : ¬ (j : Int) < (j : Int) := by omega
                have hb2 : b = decide (X.data.toList ∈ chT M f) := by
                  have := hb.out
                  rwa [List.take_of_length_le (by rw [hnA.out]; exact Nat.le_refl _)] at this
                have CE := Lib.hid (saw_any 0 X HC.out HOK.out.n64 (by have := HXS.out; have := HQC.out; omega) HOK.out.ch (by show 0 ≤ _; omega) HOK.out.f64 (by omega))
                rw [saw_in HR.out (by rw [HXS.out, HQC.out]), ← hb2] at CE
                clear hb hb2
                rcases b with _ | _
                all_goals
                  go_wp2_with fail
                  refine CE.out.mono ?_
                  rintro e w6 ⟨rfl, _, _, f6, kq6, _, _⟩
                  have HB6 := Lib.hid (HB5.out.trans (kq6.below.mono HwC))
                  clear f6 kq6 CE
                  go_wp2_with fail
                  go_ret
                  exact ⟨rfl, HB6.out⟩

          · as_aux_lemma =>
            have hXs : T.size = q := by omega
            have hT1 : ¬ (q : Int) < (T.size : Int) := by omega
            go_upto_region 28 with fail
            clear hT1 hTq ht1 ht2
            generalize T = X at *
            have HXS := Lib.hid hXs
            clear hXs
            have HQC := Lib.hid hq.out
            go_wp2_with fail
            go_loopw [17, 18] (fun si sj wi => ∃ (b : Bool) (j : Nat), si = .bool b ∧ sj = .int .i64 (j : Int) ∧ j ≤ nA ∧ Hid (b = decide (X.data.toList ∈ (chT M f).take j)) ∧ wi = w5) (fun _ sj _ => nA - (intOf sj).toNat)
            case atStart => exact ⟨false, 0, rfl, rfl, by omega, Lib.hid (by simp), rfl⟩
            case round =>
              obtain ⟨b, j, rfl, rfl, hj, hb, rfl⟩ := hrel
              by_cases hjn : j < nA
              · as_aux_lemma =>
                have hjl : j < (chT M f).length := by rw [hnA.out]; exact hjn
                have hcj := HC5.out j hjl
                obtain ⟨Y, hY⟩ : ∃ Y : ByteArray, Hid ((⟨((chT M f)[j]).toArray⟩ : ByteArray) = Y) := ⟨_, Lib.hid rfl⟩
                rw [hY.out] at hcj
                have hji : (j : Int) < (nA : Int) := by omega
                rcases b with _ | _
                · by_cases hYX : Y = X
                  · have hin := Lib.hid (in_take hjl hb.out (c := true) (by
                      have : (chT M f)[j] = X.data.toList := by rw [← hYX, ← hY.out]
                      simp [this]))
                    clear hY
                    subst hYX
                    go_wp2_with fail
                    go_roundw
                    case rel => exact ⟨true, j + 1, by first | rfl | simp, by go_num, by omega, hin, by trivial⟩
                    case measure => simp [intOf]; omega
                  · have hin := Lib.hid (in_take hjl hb.out (c := false) (by
                      have : (chT M f)[j] ≠ X.data.toList := fun e => hYX (by rw [← hY.out, e])
                      simp [this]))
                    go_wp2_with fail
                    go_roundw
                    case rel => exact ⟨false, j + 1, by first | rfl | (simp; exact fun e => hYX (ba_toL _ _ e)), by go_num, by omega, hin, by trivial⟩
                    case measure => simp [intOf]; omega
                · have hin := Lib.hid (in_take hjl hb.out (c := decide ((chT M f)[j] = X.data.toList)) rfl)
                  go_wp2_with fail
                  go_roundw
                  case rel => exact ⟨true, j + 1, rfl, by go_num, by omega, Lib.hid (by rw [← hin.out]; rfl), by trivial⟩
                  case measure => simp [intOf]; omega
              · as_aux_lemma =>
                obtain rfl : j = nA := by omega
                have hnl : ¬ (j : Int) < (j : Int) := by omega
                have hb2 : b = decide (X.data.toList ∈ chT M f) := by
                  have := hb.out
                  rwa [List.take_of_length_le (by rw [hnA.out]; exact Nat.le_refl _)] at this
                have CE := Lib.hid (saw_any 0 X HC.out HOK.out.n64 (by have := HXS.out; have := HQC.out; omega) HOK.out.ch (by show 0 ≤ _; omega) HOK.out.f64 (by omega))
                rw [saw_in HR.out (by rw [HXS.out, HQC.out]), ← hb2] at CE
                clear hb hb2
                rcases b with _ | _
                all_goals
                  go_wp2_with fail
                  refine CE.out.mono ?_
                  rintro e w6 ⟨rfl, _, _, f6, kq6, _, _⟩
                  have HB6 := Lib.hid (HB5.out.trans (kq6.below.mono HwC))
                  clear f6 kq6 CE
                  go_wp2_with fail
                  go_ret
                  exact ⟨rfl, HB6.out⟩
        · as_aux_lemma =>
          have hcvt := HO4.out.conv nO cO (by rw [hnO.out]; exact Nat.le_refl _)
          have h4i : ¬ (400 : Int) < (nO : Int) := by omega
          obtain ⟨SO, hSO⟩ : ∃ SO, (⟨(O.take nO).toArray⟩ : ByteArray) = SO := ⟨_, rfl⟩
          rw [hSO] at hcvt
          have hSOs : SO.size ≤ 400 := by rw [← hSO, bytes_size, List.length_take]; omega
          have hq5 : q ≤ 240 := by have := hq.out; omega
          clear hSO
          obtain ⟨T, ht1, ht2, hcf⟩ := full_any SO q w4 (by omega) (by omega)
          have CF := Lib.hid hcf
          clear hcf
          go_wp2_with fail
          refine CF.out.mono ?_
          rintro e w5 ⟨rfl, b5⟩
          have HB5 := Lib.hid (HB4.out.trans (b5.mono HB4.out.size))
          have HC := Lib.hid (HC4.out.below b5)
          have HC5 : Hid (∀ i (hi : i < (chT M f).length), w5.cell? ⟨gA, i, none⟩ = some (.string ⟨((chT M f)[i]).toArray⟩)) := Lib.hid (fun i hi => (b5.cell (p := ⟨gA, i, none⟩) hgA4).trans (HC4C.out i hi))
          clear CF b5 HB4 HC4 HC4C
          by_cases hTq : q < T.size
          · as_aux_lemma =>
            obtain ⟨X, hX⟩ : ∃ X, T.extract 0 q = X := ⟨_, rfl⟩
            have hXs : X.size = q := by rw [← hX, ByteArray.size_extract]; omega
            have hT1 : (q : Int) < (T.size : Int) := by omega
            have hT2 : (q : Int) ≤ (T.size : Int) := by omega
            have hT3 : (0 : Int) ≤ (q : Int) := by omega
            go_upto_region 28 with fail
            (try rw [hX])
            clear hX hT1 hT2 hT3 hTq ht1 ht2
            have HXS := Lib.hid hXs
            clear hXs
            have HQC := Lib.hid hq.out
            go_wp2_with fail
            go_loopw [17, 18] (fun si sj wi => ∃ (b : Bool) (j : Nat), si = .bool b ∧ sj = .int .i64 (j : Int) ∧ j ≤ nA ∧ Hid (b = decide (X.data.toList ∈ (chT M f).take j)) ∧ wi = w5) (fun _ sj _ => nA - (intOf sj).toNat)
            case atStart => exact ⟨false, 0, rfl, rfl, by omega, Lib.hid (by simp), rfl⟩
            case round =>
              obtain ⟨b, j, rfl, rfl, hj, hb, rfl⟩ := hrel
              by_cases hjn : j < nA
              · as_aux_lemma =>
                have hjl : j < (chT M f).length := by rw [hnA.out]; exact hjn
                have hcj := HC5.out j hjl
                obtain ⟨Y, hY⟩ : ∃ Y : ByteArray, Hid ((⟨((chT M f)[j]).toArray⟩ : ByteArray) = Y) := ⟨_, Lib.hid rfl⟩
                rw [hY.out] at hcj
                have hji : (j : Int) < (nA : Int) := by omega
                rcases b with _ | _
                · by_cases hYX : Y = X
                  · have hin := Lib.hid (in_take hjl hb.out (c := true) (by
                      have : (chT M f)[j] = X.data.toList := by rw [← hYX, ← hY.out]
                      simp [this]))
                    clear hY
                    subst hYX
                    go_wp2_with fail
                    go_roundw
                    case rel => exact ⟨true, j + 1, by first | rfl | simp, by go_num, by omega, hin, by trivial⟩
                    case measure => simp [intOf]; omega
                  · have hin := Lib.hid (in_take hjl hb.out (c := false) (by
                      have : (chT M f)[j] ≠ X.data.toList := fun e => hYX (by rw [← hY.out, e])
                      simp [this]))
                    go_wp2_with fail
                    go_roundw
                    case rel => exact ⟨false, j + 1, by first | rfl | (simp; exact fun e => hYX (ba_toL _ _ e)), by go_num, by omega, hin, by trivial⟩
                    case measure => simp [intOf]; omega
                · have hin := Lib.hid (in_take hjl hb.out (c := decide ((chT M f)[j] = X.data.toList)) rfl)
                  go_wp2_with fail
                  go_roundw
                  case rel => exact ⟨true, j + 1, rfl, by go_num, by omega, Lib.hid (by rw [← hin.out]; rfl), by trivial⟩
                  case measure => simp [intOf]; omega
              · as_aux_lemma =>
                obtain rfl : j = nA := by omega
                have hnl : ¬ (j : Int) < (j : Int) := by omega
                have hb2 : b = decide (X.data.toList ∈ chT M f) := by
                  have := hb.out
                  rwa [List.take_of_length_le (by rw [hnA.out]; exact Nat.le_refl _)] at this
                have CE := Lib.hid (saw_any 0 X HC.out HOK.out.n64 (by have := HXS.out; have := HQC.out; omega) HOK.out.ch (by show 0 ≤ _; omega) HOK.out.f64 (by omega))
                rw [saw_in HR.out (by rw [HXS.out, HQC.out]), ← hb2] at CE
                clear hb hb2
                rcases b with _ | _
                all_goals
                  go_wp2_with fail
                  refine CE.out.mono ?_
                  rintro e w6 ⟨rfl, _, _, f6, kq6, _, _⟩
                  have HB6 := Lib.hid (HB5.out.trans (kq6.below.mono HwC))
                  clear f6 kq6 CE
                  go_wp2_with fail
                  go_ret
                  exact ⟨rfl, HB6.out⟩

          · as_aux_lemma =>
            have hXs : T.size = q := by omega
            have hT1 : ¬ (q : Int) < (T.size : Int) := by omega
            go_upto_region 28 with fail
            clear hT1 hTq ht1 ht2
            generalize T = X at *
            have HXS := Lib.hid hXs
            clear hXs
            have HQC := Lib.hid hq.out
            go_wp2_with fail
            go_loopw [17, 18] (fun si sj wi => ∃ (b : Bool) (j : Nat), si = .bool b ∧ sj = .int .i64 (j : Int) ∧ j ≤ nA ∧ Hid (b = decide (X.data.toList ∈ (chT M f).take j)) ∧ wi = w5) (fun _ sj _ => nA - (intOf sj).toNat)
            case atStart => exact ⟨false, 0, rfl, rfl, by omega, Lib.hid (by simp), rfl⟩
            case round =>
              obtain ⟨b, j, rfl, rfl, hj, hb, rfl⟩ := hrel
              by_cases hjn : j < nA
              · as_aux_lemma =>
                have hjl : j < (chT M f).length := by rw [hnA.out]; exact hjn
                have hcj := HC5.out j hjl
                obtain ⟨Y, hY⟩ : ∃ Y : ByteArray, Hid ((⟨((chT M f)[j]).toArray⟩ : ByteArray) = Y) := ⟨_, Lib.hid rfl⟩
                rw [hY.out] at hcj
                have hji : (j : Int) < (nA : Int) := by omega
                rcases b with _ | _
                · by_cases hYX : Y = X
                  · have hin := Lib.hid (in_take hjl hb.out (c := true) (by
                      have : (chT M f)[j] = X.data.toList := by rw [← hYX, ← hY.out]
                      simp [this]))
                    clear hY
                    subst hYX
                    go_wp2_with fail
                    go_roundw
                    case rel => exact ⟨true, j + 1, by first | rfl | simp, by go_num, by omega, hin, by trivial⟩
                    case measure => simp [intOf]; omega
                  · have hin := Lib.hid (in_take hjl hb.out (c := false) (by
                      have : (chT M f)[j] ≠ X.data.toList := fun e => hYX (by rw [← hY.out, e])
                      simp [this]))
                    go_wp2_with fail
                    go_roundw
                    case rel => exact ⟨false, j + 1, by first | rfl | (simp; exact fun e => hYX (ba_toL _ _ e)), by go_num, by omega, hin, by trivial⟩
                    case measure => simp [intOf]; omega
                · have hin := Lib.hid (in_take hjl hb.out (c := decide ((chT M f)[j] = X.data.toList)) rfl)
                  go_wp2_with fail
                  go_roundw
                  case rel => exact ⟨true, j + 1, rfl, by go_num, by omega, Lib.hid (by rw [← hin.out]; rfl), by trivial⟩
                  case measure => simp [intOf]; omega
              · as_aux_lemma =>
                obtain rfl : j = nA := by omega
                have hnl : ¬ (j : Int) < (j : Int) := by omega
                have hb2 : b = decide (X.data.toList ∈ chT M f) := by
                  have := hb.out
                  rwa [List.take_of_length_le (by rw [hnA.out]; exact Nat.le_refl _)] at this
                have CE := Lib.hid (saw_any 0 X HC.out HOK.out.n64 (by have := HXS.out; have := HQC.out; omega) HOK.out.ch (by show 0 ≤ _; omega) HOK.out.f64 (by omega))
                rw [saw_in HR.out (by rw [HXS.out, HQC.out]), ← hb2] at CE
                clear hb hb2
                rcases b with _ | _
                all_goals
                  go_wp2_with fail
                  refine CE.out.mono ?_
                  rintro e w6 ⟨rfl, _, _, f6, kq6, _, _⟩
                  have HB6 := Lib.hid (HB5.out.trans (kq6.below.mono HwC))
                  clear f6 kq6 CE
                  go_wp2_with fail
                  go_ret
                  exact ⟨rfl, HB6.out⟩
      · as_aux_lemma =>
        have hnp : 0 < nA := by rw [← hnA.out, chT_len]; omega
        have hnA30 : nA ≤ 30 := by rw [← hnA.out, chT_len]; omega
        have HCC := Lib.hid (crash_any HF.out HR.out.ok (by omega) (by rw [HR.out.F]; simp) (by rw [HR.out.F]; simp; omega) (by omega))
        have HOK : Hid (FlOk (crM M)) := Lib.hid (crash_ok HR.out.ok)
        have hcl := crM_len HR.out
        go_wp2_with fail
        refine HCC.out.mono ?_
        rintro e w2 ⟨rfl, OL2, CL2, f2, kq2, n2, m2⟩
        have H2 : Hid (FlW w2 B g OL2 CL2 (crM M)) := Lib.hid f2
        have HA2 := Lib.hid (HAL.out.fls kq2 n2 m2)
        have HB2 := Lib.hid (HB.out.trans (kq2.below.mono HwB))
        clear HCC f2 kq2 n2 m2 HF HB HAL
        have CP := Lib.hid (copy_any H2.out HOK.out (by show M.T.length ≤ _; omega) (by omega) (by show 0 ≤ _; omega))
        go_wp2_with fail
        refine CP.out.mono ?_
        rintro e w3 ⟨gc, OLc, rfl, f3, b3⟩
        have H3 := Lib.hid (H2.out.below b3)
        have HA3 := Lib.hid (HA2.out.below b3)
        have HB3 := Lib.hid (HB2.out.trans (b3.mono HB2.out.size))
        have HC3 := Lib.hid f3
        have HwC := HB2.out.size
        have HDJ : Hid ((∀ j ∈ OLc, j ∉ OL2) ∧ (∀ j ∈ CL2, j ∉ OL2)) := Lib.hid ⟨fun j h1 h2 => (by have a1 := (f3.own_lt h1).2; have a2 := (H2.out.own_lt h2).1; omega), fun j h1 => H2.out.noint (H2.out.ch_ty h1).2⟩
        obtain ⟨gA, cA, hve, hcA, hBA, hgA, hcell⟩ := HA3.out.cell (by rw [hnA.out]; omega)
        rw [hnA.out] at hve hcA
        cases hve
        clear CP b3 f3 HA2 HB2 H2
        obtain ⟨j, hj⟩ : ∃ j, pk % nA = j := ⟨_, rfl⟩
        have hjn : j < nA := by rw [← hj]; exact Nat.mod_lt _ hnp
        have htm : Int.tmod (pk : Int) (nA : Int) = (j : Int) := by
          rw [Int.tmod_eq_emod_of_nonneg (by omega)]
          have h0 : (pk : Int) % ((nA : Nat) : Int) = ((pk % nA : Nat) : Int) := by first | exact (Int.natCast_emod pk nA).symm | exact (Int.ofNat_emod pk nA).symm | rfl
          rw [hj] at h0
          exact h0
        have hn0 : ¬ (nA : Int) = 0 := by omega
        have hjl : j < (chT M f).length := by rw [hnA.out]; exact hjn
        have hcj := hcell j hjl
        obtain ⟨S, hS⟩ : ∃ S : ByteArray, (⟨((chT M f)[j]).toArray⟩ : ByteArray) = S := ⟨_, rfl⟩
        rw [hS] at hcj
        have hSm : S.data.toList ∈ chT M f := by rw [← hS]; exact List.getElem_mem hjl
        obtain ⟨s1, s2⟩ := saw_one HR.out hSm
        have hSs : S.size ≤ 1000000 := by have h1 := chT_size HR.out hSm; rw [Array.length_toList] at h1; have h2 : S.size = S.data.size := rfl; omega
        have CS := Lib.hid (saw_any 0 S H3.out HOK.out.n64 hSs HOK.out.ch (by show 0 ≤ _; omega) HOK.out.f64 (by omega))
        rw [s1] at CS
        have HCL := Lib.hid hcell
        have hcvp := HPK.out
        have hji : (j : Int) < (nA : Int) := by omega
        clear hS hSm hcell hj hjl s1 hSs
        go_wp2_with fail
        refine CS.out.mono ?_
        rintro e w4 ⟨rfl, OL4, CL4, f4, kq4, n4, m4⟩
        have H4 := Lib.hid f4
        have HB4 := Lib.hid (HB3.out.trans (kq4.below.mono HwB))
        have HC4 := Lib.hid (HC3.out.kq kq4 HDJ.out.1 HDJ.out.2)
        have HC4C : Hid (∀ i (hi : i < (chT M f).length), w4.cell? ⟨gA, i, none⟩ = some (.string ⟨((chT M f)[i]).toArray⟩)) := Lib.hid (fun i hi => kq4.cell (HA3.out.2 gA rfl).1 (HCL.out i hi))
        have hgA4 : gA < w4.heap.size := Nat.lt_of_lt_of_le hgA kq4.below.size
        have CWD := Lib.hid (fun u (h : FlW u B g OL4 CL4 (sawM (crM M) 0 S)) => worlds_any h)
        rw [s2] at CWD
        have hn1 : (((1 : Nat)) : Int) = 1 := rfl
        rw [hn1] at CWD
        clear hn1 CS f4 kq4 n4 m4 H3 HA3 HB3 HC3 HDJ HCL hcj htm hcvp hcA hBA hgA s2
        go_wp2_with fail
        refine (CWD.out w4 H4.out).mono ?_
        rintro e w' ⟨rfl, rfl⟩
        clear CWD H4
        have HO4 := Lib.hid (HO.out.below HB4.out)
        by_cases h4 : 400 < nO
        · as_aux_lemma =>
          have hcvt := HO4.out.conv 400 cO (by rw [hnO.out]; omega)
          have h4i : (400 : Int) < (nO : Int) := by omega
          have h4c : (400 : Int) ≤ (cO : Int) := by omega
          obtain ⟨SO, hSO⟩ : ∃ SO, (⟨(O.take 400).toArray⟩ : ByteArray) = SO := ⟨_, rfl⟩
          rw [hSO] at hcvt
          have hSOs : SO.size ≤ 400 := by rw [← hSO, bytes_size, List.length_take]; omega
          have hq5 : q ≤ 240 := by have := hq.out; omega
          clear hSO
          obtain ⟨T, ht1, ht2, hcf⟩ := full_any SO q w4 (by omega) (by omega)
          have CF := Lib.hid hcf
          clear hcf
          go_wp2_with fail
          refine CF.out.mono ?_
          rintro e w5 ⟨rfl, b5⟩
          have HB5 := Lib.hid (HB4.out.trans (b5.mono HB4.out.size))
          have HC := Lib.hid (HC4.out.below b5)
          have HC5 : Hid (∀ i (hi : i < (chT M f).length), w5.cell? ⟨gA, i, none⟩ = some (.string ⟨((chT M f)[i]).toArray⟩)) := Lib.hid (fun i hi => (b5.cell (p := ⟨gA, i, none⟩) hgA4).trans (HC4C.out i hi))
          clear CF b5 HB4 HC4 HC4C
          by_cases hTq : q < T.size
          · as_aux_lemma =>
            obtain ⟨X, hX⟩ : ∃ X, T.extract 0 q = X := ⟨_, rfl⟩
            have hXs : X.size = q := by rw [← hX, ByteArray.size_extract]; omega
            have hT1 : (q : Int) < (T.size : Int) := by omega
            have hT2 : (q : Int) ≤ (T.size : Int) := by omega
            have hT3 : (0 : Int) ≤ (q : Int) := by omega
            go_upto_region 28 with fail
            (try rw [hX])
            clear hX hT1 hT2 hT3 hTq ht1 ht2
            have HXS := Lib.hid hXs
            clear hXs
            have HQC := Lib.hid hq.out
            go_wp2_with fail
            go_loopw [17, 18] (fun si sj wi => ∃ (b : Bool) (j : Nat), si = .bool b ∧ sj = .int .i64 (j : Int) ∧ j ≤ nA ∧ Hid (b = decide (X.data.toList ∈ (chT M f).take j)) ∧ wi = w5) (fun _ sj _ => nA - (intOf sj).toNat)
            case atStart => exact ⟨false, 0, rfl, rfl, by omega, Lib.hid (by simp), rfl⟩
            case round =>
              obtain ⟨b, j, rfl, rfl, hj, hb, rfl⟩ := hrel
              by_cases hjn : j < nA
              · as_aux_lemma =>
                have hjl : j < (chT M f).length := by rw [hnA.out]; exact hjn
                have hcj := HC5.out j hjl
                obtain ⟨Y, hY⟩ : ∃ Y : ByteArray, Hid ((⟨((chT M f)[j]).toArray⟩ : ByteArray) = Y) := ⟨_, Lib.hid rfl⟩
                rw [hY.out] at hcj
                have hji : (j : Int) < (nA : Int) := by omega
                rcases b with _ | _
                · by_cases hYX : Y = X
                  · have hin := Lib.hid (in_take hjl hb.out (c := true) (by
                      have : (chT M f)[j] = X.data.toList := by rw [← hYX, ← hY.out]
                      simp [this]))
                    clear hY
                    subst hYX
                    go_wp2_with fail
                    go_roundw
                    case rel => exact ⟨true, j + 1, by first | rfl | simp, by go_num, by omega, hin, by trivial⟩
                    case measure => simp [intOf]; omega
                  · have hin := Lib.hid (in_take hjl hb.out (c := false) (by
                      have : (chT M f)[j] ≠ X.data.toList := fun e => hYX (by rw [← hY.out, e])
                      simp [this]))
                    go_wp2_with fail
                    go_roundw
                    case rel => exact ⟨false, j + 1, by first | rfl | (simp; exact fun e => hYX (ba_toL _ _ e)), by go_num, by omega, hin, by trivial⟩
                    case measure => simp [intOf]; omega
                · have hin := Lib.hid (in_take hjl hb.out (c := decide ((chT M f)[j] = X.data.toList)) rfl)
                  go_wp2_with fail
                  go_roundw
                  case rel => exact ⟨true, j + 1, rfl, by go_num, by omega, Lib.hid (by rw [← hin.out]; rfl), by trivial⟩
                  case measure => simp [intOf]; omega
              · as_aux_lemma =>
                obtain rfl : j = nA := by omega
                have hnl : ¬ (j : Int) < (j : Int) := by omega
                have hb2 : b = decide (X.data.toList ∈ chT M f) := by
                  have := hb.out
                  rwa [List.take_of_length_le (by rw [hnA.out]; exact Nat.le_refl _)] at this
                have CE := Lib.hid (saw_any 0 X HC.out HOK.out.n64 (by have := HXS.out; have := HQC.out; omega) HOK.out.ch (by show 0 ≤ _; omega) HOK.out.f64 (by omega))
                rw [saw_in HR.out (by rw [HXS.out, HQC.out]), ← hb2] at CE
                clear hb hb2
                rcases b with _ | _
                all_goals
                  go_wp2_with fail
                  refine CE.out.mono ?_
                  rintro e w6 ⟨rfl, _, _, f6, kq6, _, _⟩
                  have HB6 := Lib.hid (HB5.out.trans (kq6.below.mono HwC))
                  clear f6 kq6 CE
                  go_wp2_with fail
                  go_ret
                  exact ⟨rfl, HB6.out⟩

          · as_aux_lemma =>
            have hXs : T.size = q := by omega
            have hT1 : ¬ (q : Int) < (T.size : Int) := by omega
            go_upto_region 28 with fail
            clear hT1 hTq ht1 ht2
            generalize T = X at *
            have HXS := Lib.hid hXs
            clear hXs
            have HQC := Lib.hid hq.out
            go_wp2_with fail
            go_loopw [17, 18] (fun si sj wi => ∃ (b : Bool) (j : Nat), si = .bool b ∧ sj = .int .i64 (j : Int) ∧ j ≤ nA ∧ Hid (b = decide (X.data.toList ∈ (chT M f).take j)) ∧ wi = w5) (fun _ sj _ => nA - (intOf sj).toNat)
            case atStart => exact ⟨false, 0, rfl, rfl, by omega, Lib.hid (by simp), rfl⟩
            case round =>
              obtain ⟨b, j, rfl, rfl, hj, hb, rfl⟩ := hrel
              by_cases hjn : j < nA
              · as_aux_lemma =>
                have hjl : j < (chT M f).length := by rw [hnA.out]; exact hjn
                have hcj := HC5.out j hjl
                obtain ⟨Y, hY⟩ : ∃ Y : ByteArray, Hid ((⟨((chT M f)[j]).toArray⟩ : ByteArray) = Y) := ⟨_, Lib.hid rfl⟩
                rw [hY.out] at hcj
                have hji : (j : Int) < (nA : Int) := by omega
                rcases b with _ | _
                · by_cases hYX : Y = X
                  · have hin := Lib.hid (in_take hjl hb.out (c := true) (by
                      have : (chT M f)[j] = X.data.toList := by rw [← hYX, ← hY.out]
                      simp [this]))
                    clear hY
                    subst hYX
                    go_wp2_with fail
                    go_roundw
                    case rel => exact ⟨true, j + 1, by first | rfl | simp, by go_num, by omega, hin, by trivial⟩
                    case measure => simp [intOf]; omega
                  · have hin := Lib.hid (in_take hjl hb.out (c := false) (by
                      have : (chT M f)[j] ≠ X.data.toList := fun e => hYX (by rw [← hY.out, e])
                      simp [this]))
                    go_wp2_with fail
                    go_roundw
                    case rel => exact ⟨false, j + 1, by first | rfl | (simp; exact fun e => hYX (ba_toL _ _ e)), by go_num, by omega, hin, by trivial⟩
                    case measure => simp [intOf]; omega
                · have hin := Lib.hid (in_take hjl hb.out (c := decide ((chT M f)[j] = X.data.toList)) rfl)
                  go_wp2_with fail
                  go_roundw
                  case rel => exact ⟨true, j + 1, rfl, by go_num, by omega, Lib.hid (by rw [← hin.out]; rfl), by trivial⟩
                  case measure => simp [intOf]; omega
              · as_aux_lemma =>
                obtain rfl : j = nA := by omega
                have hnl : ¬ (j : Int) < (j : Int) := by omega
                have hb2 : b = decide (X.data.toList ∈ chT M f) := by
                  have := hb.out
                  rwa [List.take_of_length_le (by rw [hnA.out]; exact Nat.le_refl _)] at this
                have CE := Lib.hid (saw_any 0 X HC.out HOK.out.n64 (by have := HXS.out; have := HQC.out; omega) HOK.out.ch (by show 0 ≤ _; omega) HOK.out.f64 (by omega))
                rw [saw_in HR.out (by rw [HXS.out, HQC.out]), ← hb2] at CE
                clear hb hb2
                rcases b with _ | _
                all_goals
                  go_wp2_with fail
                  refine CE.out.mono ?_
                  rintro e w6 ⟨rfl, _, _, f6, kq6, _, _⟩
                  have HB6 := Lib.hid (HB5.out.trans (kq6.below.mono HwC))
                  clear f6 kq6 CE
                  go_wp2_with fail
                  go_ret
                  exact ⟨rfl, HB6.out⟩
        · as_aux_lemma =>
          have hcvt := HO4.out.conv nO cO (by rw [hnO.out]; exact Nat.le_refl _)
          have h4i : ¬ (400 : Int) < (nO : Int) := by omega
          obtain ⟨SO, hSO⟩ : ∃ SO, (⟨(O.take nO).toArray⟩ : ByteArray) = SO := ⟨_, rfl⟩
          rw [hSO] at hcvt
          have hSOs : SO.size ≤ 400 := by rw [← hSO, bytes_size, List.length_take]; omega
          have hq5 : q ≤ 240 := by have := hq.out; omega
          clear hSO
          obtain ⟨T, ht1, ht2, hcf⟩ := full_any SO q w4 (by omega) (by omega)
          have CF := Lib.hid hcf
          clear hcf
          go_wp2_with fail
          refine CF.out.mono ?_
          rintro e w5 ⟨rfl, b5⟩
          have HB5 := Lib.hid (HB4.out.trans (b5.mono HB4.out.size))
          have HC := Lib.hid (HC4.out.below b5)
          have HC5 : Hid (∀ i (hi : i < (chT M f).length), w5.cell? ⟨gA, i, none⟩ = some (.string ⟨((chT M f)[i]).toArray⟩)) := Lib.hid (fun i hi => (b5.cell (p := ⟨gA, i, none⟩) hgA4).trans (HC4C.out i hi))
          clear CF b5 HB4 HC4 HC4C
          by_cases hTq : q < T.size
          · as_aux_lemma =>
            obtain ⟨X, hX⟩ : ∃ X, T.extract 0 q = X := ⟨_, rfl⟩
            have hXs : X.size = q := by rw [← hX, ByteArray.size_extract]; omega
            have hT1 : (q : Int) < (T.size : Int) := by omega
            have hT2 : (q : Int) ≤ (T.size : Int) := by omega
            have hT3 : (0 : Int) ≤ (q : Int) := by omega
            go_upto_region 28 with fail
            (try rw [hX])
            clear hX hT1 hT2 hT3 hTq ht1 ht2
            have HXS := Lib.hid hXs
            clear hXs
            have HQC := Lib.hid hq.out
            go_wp2_with fail
            go_loopw [17, 18] (fun si sj wi => ∃ (b : Bool) (j : Nat), si = .bool b ∧ sj = .int .i64 (j : Int) ∧ j ≤ nA ∧ Hid (b = decide (X.data.toList ∈ (chT M f).take j)) ∧ wi = w5) (fun _ sj _ => nA - (intOf sj).toNat)
            case atStart => exact ⟨false, 0, rfl, rfl, by omega, Lib.hid (by simp), rfl⟩
            case round =>
              obtain ⟨b, j, rfl, rfl, hj, hb, rfl⟩ := hrel
              by_cases hjn : j < nA
              · as_aux_lemma =>
                have hjl : j < (chT M f).length := by rw [hnA.out]; exact hjn
                have hcj := HC5.out j hjl
                obtain ⟨Y, hY⟩ : ∃ Y : ByteArray, Hid ((⟨((chT M f)[j]).toArray⟩ : ByteArray) = Y) := ⟨_, Lib.hid rfl⟩
                rw [hY.out] at hcj
                have hji : (j : Int) < (nA : Int) := by omega
                rcases b with _ | _
                · by_cases hYX : Y = X
                  · have hin := Lib.hid (in_take hjl hb.out (c := true) (by
                      have : (chT M f)[j] = X.data.toList := by rw [← hYX, ← hY.out]
                      simp [this]))
                    clear hY
                    subst hYX
                    go_wp2_with fail
                    go_roundw
                    case rel => exact ⟨true, j + 1, by first | rfl | simp, by go_num, by omega, hin, by trivial⟩
                    case measure => simp [intOf]; omega
                  · have hin := Lib.hid (in_take hjl hb.out (c := false) (by
                      have : (chT M f)[j] ≠ X.data.toList := fun e => hYX (by rw [← hY.out, e])
                      simp [this]))
                    go_wp2_with fail
                    go_roundw
                    case rel => exact ⟨false, j + 1, by first | rfl | (simp; exact fun e => hYX (ba_toL _ _ e)), by go_num, by omega, hin, by trivial⟩
                    case measure => simp [intOf]; omega
                · have hin := Lib.hid (in_take hjl hb.out (c := decide ((chT M f)[j] = X.data.toList)) rfl)
                  go_wp2_with fail
                  go_roundw
                  case rel => exact ⟨true, j + 1, rfl, by go_num, by omega, Lib.hid (by rw [← hin.out]; rfl), by trivial⟩
                  case measure => simp [intOf]; omega
              · as_aux_lemma =>
                obtain rfl : j = nA := by omega
                have hnl : ¬ (j : Int) < (j : Int) := by omega
                have hb2 : b = decide (X.data.toList ∈ chT M f) := by
                  have := hb.out
                  rwa [List.take_of_length_le (by rw [hnA.out]; exact Nat.le_refl _)] at this
                have CE := Lib.hid (saw_any 0 X HC.out HOK.out.n64 (by have := HXS.out; have := HQC.out; omega) HOK.out.ch (by show 0 ≤ _; omega) HOK.out.f64 (by omega))
                rw [saw_in HR.out (by rw [HXS.out, HQC.out]), ← hb2] at CE
                clear hb hb2
                rcases b with _ | _
                all_goals
                  go_wp2_with fail
                  refine CE.out.mono ?_
                  rintro e w6 ⟨rfl, _, _, f6, kq6, _, _⟩
                  have HB6 := Lib.hid (HB5.out.trans (kq6.below.mono HwC))
                  clear f6 kq6 CE
                  go_wp2_with fail
                  go_ret
                  exact ⟨rfl, HB6.out⟩

          · as_aux_lemma =>
            have hXs : T.size = q := by omega
            have hT1 : ¬ (q : Int) < (T.size : Int) := by omega
            go_upto_region 28 with fail
            clear hT1 hTq ht1 ht2
            generalize T = X at *
            have HXS := Lib.hid hXs
            clear hXs
            have HQC := Lib.hid hq.out
            go_wp2_with fail
            go_loopw [17, 18] (fun si sj wi => ∃ (b : Bool) (j : Nat), si = .bool b ∧ sj = .int .i64 (j : Int) ∧ j ≤ nA ∧ Hid (b = decide (X.data.toList ∈ (chT M f).take j)) ∧ wi = w5) (fun _ sj _ => nA - (intOf sj).toNat)
            case atStart => exact ⟨false, 0, rfl, rfl, by omega, Lib.hid (by simp), rfl⟩
            case round =>
              obtain ⟨b, j, rfl, rfl, hj, hb, rfl⟩ := hrel
              by_cases hjn : j < nA
              · as_aux_lemma =>
                have hjl : j < (chT M f).length := by rw [hnA.out]; exact hjn
                have hcj := HC5.out j hjl
                obtain ⟨Y, hY⟩ : ∃ Y : ByteArray, Hid ((⟨((chT M f)[j]).toArray⟩ : ByteArray) = Y) := ⟨_, Lib.hid rfl⟩
                rw [hY.out] at hcj
                have hji : (j : Int) < (nA : Int) := by omega
                rcases b with _ | _
                · by_cases hYX : Y = X
                  · have hin := Lib.hid (in_take hjl hb.out (c := true) (by
                      have : (chT M f)[j] = X.data.toList := by rw [← hYX, ← hY.out]
                      simp [this]))
                    clear hY
                    subst hYX
                    go_wp2_with fail
                    go_roundw
                    case rel => exact ⟨true, j + 1, by first | rfl | simp, by go_num, by omega, hin, by trivial⟩
                    case measure => simp [intOf]; omega
                  · have hin := Lib.hid (in_take hjl hb.out (c := false) (by
                      have : (chT M f)[j] ≠ X.data.toList := fun e => hYX (by rw [← hY.out, e])
                      simp [this]))
                    go_wp2_with fail
                    go_roundw
                    case rel => exact ⟨false, j + 1, by first | rfl | (simp; exact fun e => hYX (ba_toL _ _ e)), by go_num, by omega, hin, by trivial⟩
                    case measure => simp [intOf]; omega
                · have hin := Lib.hid (in_take hjl hb.out (c := decide ((chT M f)[j] = X.data.toList)) rfl)
                  go_wp2_with fail
                  go_roundw
                  case rel => exact ⟨true, j + 1, rfl, by go_num, by omega, Lib.hid (by rw [← hin.out]; rfl), by trivial⟩
                  case measure => simp [intOf]; omega
              · as_aux_lemma =>
                obtain rfl : j = nA := by omega
                have hnl : ¬ (j : Int) < (j : Int) := by omega
                have hb2 : b = decide (X.data.toList ∈ chT M f) := by
                  have := hb.out
                  rwa [List.take_of_length_le (by rw [hnA.out]; exact Nat.le_refl _)] at this
                have CE := Lib.hid (saw_any 0 X HC.out HOK.out.n64 (by have := HXS.out; have := HQC.out; omega) HOK.out.ch (by show 0 ≤ _; omega) HOK.out.f64 (by omega))
                rw [saw_in HR.out (by rw [HXS.out, HQC.out]), ← hb2] at CE
                clear hb hb2
                rcases b with _ | _
                all_goals
                  go_wp2_with fail
                  refine CE.out.mono ?_
                  rintro e w6 ⟨rfl, _, _, f6, kq6, _, _⟩
                  have HB6 := Lib.hid (HB5.out.trans (kq6.below.mono HwC))
                  clear f6 kq6 CE
                  go_wp2_with fail
                  go_ret
                  exact ⟨rfl, HB6.out⟩
section
variable {H : Type} {enc : TypeId × Value → H}
theorem flatAll_walk {r : Reach} {b0 : Nat} (v : Value) (d : DataW H) (p : List MemPlace) (w : World) (hok : Value.okWide Try.prog w r b0 48 v) (h : DataW.Trod enc Try.prog w 0 (fun _ => true) true 48 v d p) :
    Calls Try.prog 5 #[v] w fun e w' => e = .returned (.bool true) ∧ Below w.heap.size w w' := by
  obtain ⟨z, aL, cL, L, pk, aO, cO, O, rfl, h1, h2, h3, h4, h5, h6, h7, h8, h9⟩ := open_four26 hok h
  exact flatAll_any z aL cL L pk aO cO O w h1 h2 h5 (by omega) h6 h7 h8 h9
end
end Go.Proofs.Ytaemnelfnopjdaa
