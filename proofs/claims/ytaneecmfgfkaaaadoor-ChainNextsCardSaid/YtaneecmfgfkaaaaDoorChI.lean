/- What must come at any rate (layer 14): the walk. -/
import Derived.Test.YtaneecmfgfkaaaaDoorChH
import Derived.Laws.EntriesVeiled
import Derived.Test.YtaneecmfgfkaaaaDoorLinB
namespace Go.Proofs.YtaneecmfgfkaaaaDoor
open Go.RowKit Go.Deep Go.Maps
set_option linter.unusedVariables false
set_option linter.unusedSimpArgs false
theorem aw_mem {X0 X3 X6 X9 : Option OrS} {S0 S9 : OrS} {s t : List UInt8} (e0 : X0 = some S0) (l0 : S0.l = []) (h3 : SumX X0 X3 s) (h6 : SumsX X3 X6 [t]) (h9 : SumsX X6 X9 [t]) (e9 : X9 = some S9) : ∀ x, x ∈ S9.l ↔ x = s ∨ x = t := by
  obtain ⟨S3, e3, _, q3⟩ := h3.2 S0 e0
  obtain ⟨S6, e6, _, q6, _⟩ := h6.so S3 e3
  obtain ⟨S9', e9', _, q9, _⟩ := h9.so S6 e6
  rw [e9] at e9'
  cases e9'
  intro x
  rw [q9, q6, q3, mem_orNext, l0]
  simp
theorem dg_parts (l : List UInt8) (h : l.length = 32) : (bv l).toArray = digA l ∧ (bv l).length = 32 ∧ (digA l).size = 32 ∧ (digA l).all (·.oneCell') = true := ⟨rfl, by unfold bv; rw [List.length_map]; exact h, by rw [digA_size, h], digA_one l⟩
attribute [local irreducible] digA sumL z32 sB supB startT nextT alL alT awA bv
theorem aw_HST (w : World) (hgf : 0 < w.heap.size) (hgk : 1 < w.heap.size) : Hid (∀ o X w', Gl w' → OrX w.heap.size w' o X → FewX X 0 → Calls Tryd.prog 37 #[.pointer o, .string supB, .int .i64 1, .int .i64 0] w' fun e w'' => ∃ X', e = .returned (.tuple #[.agg (digA awA), .int .i64 0]) ∧ OrX w.heap.size w'' o X' ∧ SumX X X' (startT 1 0 supB) ∧ Below w.heap.size w' w'' ∧ KeptX w' w'' X X') := Lib.hid (fun o X w' h1 h2 h3 => by with_unfolding_all exact start_x10 w.heap.size o X supB w' h1 hgf hgk h2 (h3.mono (by omega)) supB_size)
theorem aw_HNX (w : World) (hgf : 0 < w.heap.size) (hgk : 1 < w.heap.size) : Hid (∀ o X w', Gl w' → OrX w.heap.size w' o X → FewX X 10 → TxtB (w'.alloc (.cells #[.string supB] 9)).heap.size (w'.alloc (.cells #[.string supB] 9)) X (some ⟨w'.heap.size, 0, none⟩) [supB] → Calls Tryd.prog 20 #[.pointer o, .agg (digA awA), .slice (some ⟨w'.heap.size, 0, none⟩) 1 1] (w'.alloc (.cells #[.string supB] 9)) fun e w'' => ∃ X', e = .returned (.tuple #[.agg (digA (nextL awA [supB])), .int .i64 0]) ∧ OrX w.heap.size w'' o X' ∧ SumsX X X' [nextT awA [supB]] ∧ Below w.heap.size (w'.alloc (.cells #[.string supB] 9)) w'' ∧ KeptX (w'.alloc (.cells #[.string supB] 9)) w'' X X') := Lib.hid (fun o X w' h1 h2 h3 h4 => by
    have b := (Below.refl w'.heap.size w').alloc (Nat.le_refl _) (.cells #[.string supB] 9)
    exact next_x w.heap.size o X awA [supB] (some ⟨w'.heap.size, 0, none⟩) 1 1 _ (h1.below b) hgf hgk (h2.below b) (h3.mono (by omega)) awA_len rfl (by omega) supB_ok h4)
theorem aw_HAL (w : World) (hgf : 0 < w.heap.size) (hgk : 1 < w.heap.size) : Hid (∀ o X w', Gl w' → OrX w.heap.size w' o X → FewX X 10 → Calls Tryd.prog 21 #[.pointer o, .agg (digA awA), .slice (some ⟨w'.heap.size + 1, 0, none⟩) 1 1] ((w'.alloc (.cells #[.string supB] 9)).alloc (.cells #[.slice (some ⟨w'.heap.size, 0, none⟩) 1 1] 25)) fun e w'' => ∃ X', e = .returned (.tuple #[.agg (digA (nextL awA [supB])), .int .i64 0]) ∧ OrX w.heap.size w'' o X' ∧ SumsX X X' [nextT awA [supB]] ∧ Below w.heap.size w' w'' ∧ KeptX w' w'' X X') := Lib.hid (fun o X w' h1 h2 h3 => by
    have hs8 : (w'.alloc (.cells #[.string supB] 9)).heap.size = w'.heap.size + 1 := by simp
    have b8 := (Below.refl w'.heap.size w').alloc (Nat.le_refl _) (.cells #[.string supB] 9)
    have hT := made_t w' supB X (h2.free _ (Nat.le_refl _))
    generalize w'.alloc (.cells #[.string supB] 9) = w8 at *
    have h9 := heap_alloc_new w8 (.cells #[.slice (some ⟨w'.heap.size, 0, none⟩) 1 1] 25)
    have b9 := (Below.refl w8.heap.size w8).alloc (Nat.le_refl _) (.cells #[.slice (some ⟨w'.heap.size, 0, none⟩) 1 1] 25)
    rw [hs8] at h9
    generalize w8.alloc (.cells #[.slice (some ⟨w'.heap.size, 0, none⟩) 1 1] 25) = w9 at *
    have B9 := b8.trans (b9.mono b8.size)
    have hok1 : ∀ i (h : i < [[supB]].length), okB [[supB]][i] = true := fun i hi => by
      obtain rfl : i = 0 := by have : i < 1 := hi; omega
      exact supB_ok
    have := along_any w.heap.size o X awA [[supB]] (some ⟨w'.heap.size + 1, 0, none⟩) 1 1 w9 (h1.below B9) hgf hgk (h2.below B9) (h3.mono (by omega)) awA_len rfl (by omega) hok1 (rowsB_one X [supB] _ 1 1 w9 rfl (by omega) (by omega) _ h9 (h2.free _ (by omega)) ((hT.kept (Nat.le_refl _) (KeptX.below b9)).mono b9.size))
    rw [alL_one, alT_one] at this
    refine this.mono ?_
    rintro e w10 ⟨X', rfl, q1, q2, q3, q4⟩
    exact ⟨X', rfl, q1, q2, (B9.mono h2.base).trans q3, (KeptX.below (X := X) B9).trans q4⟩)
theorem aw_HSA : Hid (∀ w, Gl w → Calls Tryd.prog 14 #[.string (sB (startT 1 0 supB))] w fun e w' => e = .returned (.agg (digA awA)) ∧ Below w.heap.size w w') := Lib.hid (fun w hw => by
    have h := sum_any (sB (startT 1 0 supB)) w (by rw [← aw_t1, ByteArray.size_append, supB_size]; decide) hw
    rw [sB_list' (startT 1 0 supB)] at h
    with_unfolding_all exact h)
theorem aw_HSB : Hid (∀ w, Gl w → Calls Tryd.prog 14 #[.string (sB (nextT awA [supB]))] w fun e w' => e = .returned (.agg (digA (nextL awA [supB]))) ∧ Below w.heap.size w w') := Lib.hid (fun w hw => by
    have h := sum_any (sB (nextT awA [supB])) w (by rw [← aw_t3, ByteArray.size_append, ByteArray.size_append, supB_size, nxB_size, sB_size', awA_len]; decide) hw
    rw [sB_list' (nextT awA [supB])] at h
    with_unfolding_all exact h)
theorem aw_hadd1 : ∀ V : World, (Op.stringOp .add (⟨#[115, 116, 97, 114, 116, 1, 0]⟩ : ByteArray) supB).run Tryd.prog V = .ok (.string (sB (startT 1 0 supB))) V := fun V => by rw [← aw_t1]; exact run_string_add_sum V _ supB (by rw [supB_size]; decide)
theorem aw_hadd2 : ∀ V : World, (Op.stringOp .add (⟨#[110, 101, 120, 116]⟩ : ByteArray) (sB awA)).run Tryd.prog V = .ok (.string (nxB ++ sB awA)) V := fun V => run_string_add_sum V nxB (sB awA) (by rw [nxB_size, sB_size', awA_len]; omega)
theorem aw_hadd3 : ∀ V : World, (Op.stringOp .add (nxB ++ sB awA) supB).run Tryd.prog V = .ok (.string (sB (nextT awA [supB]))) V := fun V => by rw [← aw_t3]; exact run_string_add_sum V _ supB (by rw [ByteArray.size_append, nxB_size, sB_size', awA_len, supB_size]; omega)
theorem aw_HCV : Hid (∀ (w2 : World) (q : Nat), w2.heap[q]? = some (.cells (digA awA) 34 (0, 0)) → (convert 65 9 (.slice (some ⟨q, 0, none⟩) 32 32)).run Tryd.prog w2 = .ok (.string (sB awA)) w2) := Lib.hid (fun w2 q h => by with_unfolding_all exact conv_dig h awA_len)
set_option maxRecDepth 100000 in
set_option maxHeartbeats 4000000 in
theorem awake14 (w : World) (hG : Gl w) : Calls Tryd.prog 19 #[] w fun e w' => e = .returned (.bool true) ∧ Below w.heap.size w w' := by
  have hz := zero_dig
  have hgf := hG.sf
  have hgk := hG.sk
  obtain ⟨EA, LA, ZA, OA⟩ := dg_parts awA awA_len
  obtain ⟨EB, LB, ZB, OB⟩ := dg_parts (nextL awA [supB]) (nextL_len _ _)
  have heqA := eql_dig awA awA_len
  have heqB := eql_dig (nextL awA [supB]) (nextL_len _ _)
  have HST := aw_HST w hgf hgk
  have HNX := aw_HNX w hgf hgk
  have HAL := aw_HAL w hgf hgk
  have HSA := aw_HSA
  have HSB := aw_HSB
  have hadd1 := aw_hadd1
  have hadd2 := aw_hadd2
  have hadd3 := aw_hadd3
  have HCV := aw_HCV
  have HEA := Lib.hid EA
  have HEB := Lib.hid EB
  have HLA := Lib.hid LA
  have HLB := Lib.hid LB
  have HNE := Lib.hid aw_ne
  have HA1 := Lib.hid hadd1
  have HA2 := Lib.hid hadd2
  have HA3 := Lib.hid hadd3
  have HFU := Lib.hid full_sup
  have HMT := Lib.hid (fun w X hf => made_t w supB X hf)
  clear EA EB LA LB hadd1 hadd2 hadd3
  generalize bv awA = BA at *
  generalize bv (nextL awA [supB]) = BB at *
  generalize digA awA = DA at *
  generalize digA (nextL awA [supB]) = DB at *
  generalize sB awA = sA at *
  generalize sB (startT 1 0 supB) = tA at *
  generalize sB (nextT awA [supB]) = tB at *
  generalize nextT awA [supB] = lB at *
  generalize startT 1 0 supB = lA at *
  generalize nxB ++ sA = nA at *
  generalize supB = su at *
  go_enter Tryd.func19, Tryd.ntmps19
  go_wp2_with fail
  refine (new_x w.heap.size w (Nat.le_refl _)).mono ?_
  rintro e w1 ⟨rfl, hX1, B1⟩
  obtain ⟨X0, S0, eX0, e0, l0, few0⟩ : ∃ X0 S0, (some ⟨w.heap.size + 1, [], .slice none 0 0, .slice none 0 0, w.heap.size, .map []⟩ : Option OrS) = X0 ∧ X0 = some S0 ∧ S0.l = [] ∧ FewX X0 0 := ⟨_, _, rfl, rfl, rfl, FewX.zero w _ _ _ _ _⟩
  rw [eX0] at hX1
  clear eX0
  go_wp2_with fail
  refine (HFU.out _).mono ?_
  rintro e w2 ⟨rfl, b2⟩
  have hX2 := hX1.below b2
  have B2 := B1.trans (b2.mono B1.size)
  clear hX1 b2 B1
  go_wp2_with fail
  refine (HST.out _ X0 w2 (hG.below B2) hX2 few0).mono ?_
  rintro e w3 ⟨X3, rfl, hX3, hS3, b3, K3⟩
  have few3 : FewX X3 10 := (hS3.few few0).mono (by omega)
  have HS3 := Lib.hid hS3
  have B3 := B2.trans b3
  clear hS3 hX2 B2 b3 K3 HST
  obtain ⟨w4, HW4, hd4, b4⟩ := stored_dg w3 DA
  go_upto_region 4 with (refine wpList_store_row rfl _ _ _ rfl w3.heap.size DA rfl rfl 34 _ (heap_alloc_new _ _) (by rw [ZA]; kernel_rfl) (by rw [ZA, z32_sizeC]) OA ?_)
  rw [HW4.out]
  clear HW4
  have hX4 := hX3.below b4
  have B4 := B3.trans (b4.mono B3.size)
  have hf3 : FreeX X3 w3.heap.size := hX3.free _ (Nat.le_refl _)
  have hq34 : w3.heap.size < w4.heap.size := (Array.getElem?_eq_some_iff.1 hd4).1
  clear hX3 b4 B3
  generalize w3.heap.size = q3 at *
  have b5 := (Below.refl w4.heap.size w4).alloc (Nat.le_refl _) (.cells #[.string su] 9)
  have hd5 := (b5.block q3 hq34).trans hd4
  have HN := Lib.hid (HNX.out _ X3 w4 (hG.below B4) hX4 few3 (HMT.out w4 X3 (hX4.free _ (Nat.le_refl _))))
  have hq35 := Nat.lt_of_lt_of_le hq34 b5.size
  have HB5 := Lib.hid (B4.trans (b5.mono B4.size))
  clear HNX b5
  go_wp2_with (refine wpList_load_row rfl _ _ rfl q3 rfl 34 DA (0, 0) _ hd4 Tryd.underlying34 rfl (by rw [ZA]; kernel_rfl) ?_)
  refine HN.out.mono ?_
  rintro e w6 ⟨X6, rfl, hX6, hS6, b6, K6⟩
  have few6 : FewX X6 10 := fun S e => by
    have h3 := (HS3.out.few few0)
    have := (hS6.few h3) S e
    simp at this
    omega
  have HS6 := Lib.hid hS6
  have hd6 := K6.keep _ _ hd5 hf3
  have hf6 := K6.free _ hq35 hf3
  have B6 := HB5.out.trans b6
  clear hS6 b6 K6 HN hd5 hX4 hd4 HB5 hf3
  obtain ⟨w7, HW7, hd7, b7⟩ := stored_dg w6 DB
  go_upto_region 5 with (refine wpList_store_row rfl _ _ _ rfl w6.heap.size DB rfl rfl 34 _ (heap_alloc_new _ _) (by rw [ZB]; kernel_rfl) (by rw [ZB, z32_sizeC]) OB ?_)
  rw [HW7.out]
  clear HW7
  have hX7 := hX6.below b7
  have hq36 : q3 < w6.heap.size := (Array.getElem?_eq_some_iff.1 hd6).1
  have hd37 := (b7.block q3 hq36).trans hd6
  have B7 := B6.trans (b7.mono B6.size)
  have hf67 : FreeX X6 w6.heap.size := hX6.free _ (Nat.le_refl _)
  have hq67 : w6.heap.size < w7.heap.size := (Array.getElem?_eq_some_iff.1 hd7).1
  have hq37 := Nat.lt_of_lt_of_le hq36 b7.size
  clear hX6 b7 B6 hd6
  generalize w6.heap.size = q6 at *
  have HL := Lib.hid (HAL.out _ X6 w7 (hG.below B7) hX7 few6)
  clear HAL
  go_wp2_with (refine wpList_load_row rfl _ _ rfl q3 rfl 34 DA (0, 0) _ hd37 Tryd.underlying34 rfl (by rw [ZA]; kernel_rfl) ?_)
  refine HL.out.mono ?_
  rintro e w10 ⟨X10, rfl, hX10, hS10, b10, K10⟩
  have hd310 := K10.keep _ _ hd37 hf6
  have hd610 := K10.keep _ _ hd7 hf67
  have B10 := B7.trans b10
  have HS10 := Lib.hid hS10
  clear hS10 b10 K10 HL hd37 hd7 B7 hX7 hf6 hf67
  obtain ⟨w11, HW11, hd11, b11⟩ := stored_dg w10 DB
  go_upto_region 6 with (refine wpList_store_row rfl _ _ _ rfl w10.heap.size DB rfl rfl 34 _ (heap_alloc_new _ _) (by rw [ZB]; kernel_rfl) (by rw [ZB, z32_sizeC]) OB ?_)
  rw [HW11.out]
  clear HW11
  obtain ⟨S10, e10, ea, hP10⟩ := hX10.some
  have hl2 := two_len S10.l _ _ HNE.out hP10.nd (aw_mem e0 l0 HS3.out HS6.out HS10.out e10)
  have hP11 := hP10.below b11
  have hr3 := (b11.block q3 (Array.getElem?_eq_some_iff.1 hd310).1).trans hd310
  have hr6 := (b11.block q6 (Array.getElem?_eq_some_iff.1 hd610).1).trans hd610
  have B11 := B10.trans (b11.mono B10.size)
  have hl3 := (Array.getElem?_eq_some_iff.1 hr3).1
  have hl6 := (Array.getElem?_eq_some_iff.1 hr6).1
  have hl10 : w10.heap.size < w11.heap.size := (Array.getElem?_eq_some_iff.1 hd11).1
  rw [ea]
  have HP11 := Lib.hid hP11
  have HL2 := Lib.hid hl2
  clear hd310 hd610 b11 B10 hX10 hP10 hP11 HS3 HS6 HS10 e0 l0 few0 few3 few6 ea e10 hl2
  generalize w10.heap.size = q10 at *
  have hadd1 := HA1.out
  have hadd2 := HA2.out
  have hadd3 := HA3.out
  refine wp_region_lin_all (S := (fun w' => w'.heap[q3]? = some (.cells DA 34 (0, 0)) ∧ w'.heap[q6]? = some (.cells DB 34 (0, 0)) ∧ w'.heap[q10]? = some (.cells DB 34 (0, 0)))) [(0, true), (1, true), (2, true), (3, true), (4, true), (5, true), (6, true), (7, true), (8, true), (9, true), (10, true), (11, true), (12, true), (13, true), (14, false), (15, true), (16, true), (17, true), (18, true), (19, true), (20, true), (21, true), (22, true), (23, true), (24, false), (25, true), (26, true), (27, true), (28, true), (29, true), (30, true), (31, true), (32, true), (33, true), (34, false), (35, true), (36, true), (37, true)] (by kernel_rfl) (by kernel_rfl) rfl (by kernel_rfl) ?_ (fun hHeld => ?_)
  · (try dsimp only); exact ⟨hr3, hr6, hd11⟩
  (refine wpL_calm (o := { dst := some 34, op := Go.Op.move (Go.Operand.tmp 4), type := 30, pos := "law.go:19", after := #[], guard := none }) (v := ?_) rfl (Or.inl ⟨by rfl, ?_⟩) ?_; rotate_left; (focus (intro w hSw; (try dsimp only at hSw); go_simp; (try (with_reducible rfl)); done)); try simp only [Act.put, List.setIfInBounds_toArray, List.set_cons_zero, List.set_cons_succ])
  (refine wpL_calm (o := { dst := some 35, op := Go.Op.binOp Go.BinOp.eql 30 (Go.Operand.tmp 34) (Go.Operand.const (Go.Value.int Go.IntKind.i64 0)) 30, type := 4, pos := "law.go:19", after := #[{ on := 0, ground := Go.Ground.data }], guard := none }) (v := ?_) rfl (Or.inl ⟨by rfl, ?_⟩) ?_; rotate_left; (focus (intro w hSw; (try dsimp only at hSw); go_simp; (try (with_reducible rfl)); done)); try simp only [Act.put, List.setIfInBounds_toArray, List.set_cons_zero, List.set_cons_succ])
  (refine wpL_calm (o := { dst := some 36, op := Go.Op.move (Go.Operand.tmp 35), type := 4, pos := "law.go:19", after := #[{ on := 1, ground := Go.Ground.data }], guard := none }) (v := ?_) rfl (Or.inl ⟨by rfl, ?_⟩) ?_; rotate_left; (focus (intro w hSw; (try dsimp only at hSw); go_simp; (try (with_reducible rfl)); done)); try simp only [Act.put, List.setIfInBounds_toArray, List.set_cons_zero, List.set_cons_succ])
  first | (refine wpL_calm (o := { dst := some 37, op := Go.Op.move (Go.Operand.tmp 6), type := 30, pos := "law.go:19", after := #[{ on := 2, ground := Go.Ground.guard }], guard := some (2, true) }) (v := ?_) rfl (Or.inl ⟨by rfl, ?_⟩) ?_; rotate_left; (focus (intro w hSw; (try dsimp only at hSw); go_simp; (try (with_reducible rfl)); done)); try simp only [Act.put, List.setIfInBounds_toArray, List.set_cons_zero, List.set_cons_succ]) | (refine wpL_calm (o := { dst := some 37, op := Go.Op.move (Go.Operand.tmp 6), type := 30, pos := "law.go:19", after := #[{ on := 2, ground := Go.Ground.guard }], guard := some (2, true) }) (v := undef) rfl (Or.inr ⟨by rfl, rfl⟩) ?_; try simp only [Act.put, List.setIfInBounds_toArray, List.set_cons_zero, List.set_cons_succ])
  first | (refine wpL_calm (o := { dst := some 38, op := Go.Op.binOp Go.BinOp.eql 30 (Go.Operand.tmp 37) (Go.Operand.const (Go.Value.int Go.IntKind.i64 0)) 30, type := 4, pos := "law.go:19", after := #[{ on := 3, ground := Go.Ground.data }, { on := 2, ground := Go.Ground.guard }], guard := some (2, true) }) (v := ?_) rfl (Or.inl ⟨by rfl, ?_⟩) ?_; rotate_left; (focus (intro w hSw; (try dsimp only at hSw); go_simp; (try (with_reducible rfl)); done)); try simp only [Act.put, List.setIfInBounds_toArray, List.set_cons_zero, List.set_cons_succ]) | (refine wpL_calm (o := { dst := some 38, op := Go.Op.binOp Go.BinOp.eql 30 (Go.Operand.tmp 37) (Go.Operand.const (Go.Value.int Go.IntKind.i64 0)) 30, type := 4, pos := "law.go:19", after := #[{ on := 3, ground := Go.Ground.data }, { on := 2, ground := Go.Ground.guard }], guard := some (2, true) }) (v := undef) rfl (Or.inr ⟨by rfl, rfl⟩) ?_; try simp only [Act.put, List.setIfInBounds_toArray, List.set_cons_zero, List.set_cons_succ])
  (refine wpL_calm (o := { dst := some 39, op := Go.Op.pick (Go.Operand.tmp 36) (Go.Operand.tmp 38) (Go.Operand.const (Go.Value.bool false)), type := 4, pos := "law.go:19", after := #[{ on := 2, ground := Go.Ground.data }, { on := 4, ground := Go.Ground.data }], guard := none }) (v := ?_) rfl (Or.inl ⟨by rfl, ?_⟩) ?_; rotate_left; (focus (intro w hSw; (try dsimp only at hSw); go_simp; (try (with_reducible rfl)); done)); try simp only [Act.put, List.setIfInBounds_toArray, List.set_cons_zero, List.set_cons_succ])
  (refine wpL_calm (o := { dst := some 40, op := Go.Op.move (Go.Operand.tmp 39), type := 4, pos := "law.go:19", after := #[{ on := 5, ground := Go.Ground.data }, { on := 2, ground := Go.Ground.chain }], guard := none }) (v := ?_) rfl (Or.inl ⟨by rfl, ?_⟩) ?_; rotate_left; (focus (intro w hSw; (try dsimp only at hSw); go_simp; (try (with_reducible rfl)); done)); try simp only [Act.put, List.setIfInBounds_toArray, List.set_cons_zero, List.set_cons_succ])
  first | (refine wpL_calm (o := { dst := some 41, op := Go.Op.move (Go.Operand.tmp 8), type := 30, pos := "law.go:19", after := #[{ on := 6, ground := Go.Ground.guard }], guard := some (6, true) }) (v := ?_) rfl (Or.inl ⟨by rfl, ?_⟩) ?_; rotate_left; (focus (intro w hSw; (try dsimp only at hSw); go_simp; (try (with_reducible rfl)); done)); try simp only [Act.put, List.setIfInBounds_toArray, List.set_cons_zero, List.set_cons_succ]) | (refine wpL_calm (o := { dst := some 41, op := Go.Op.move (Go.Operand.tmp 8), type := 30, pos := "law.go:19", after := #[{ on := 6, ground := Go.Ground.guard }], guard := some (6, true) }) (v := undef) rfl (Or.inr ⟨by rfl, rfl⟩) ?_; try simp only [Act.put, List.setIfInBounds_toArray, List.set_cons_zero, List.set_cons_succ])
  first | (refine wpL_calm (o := { dst := some 42, op := Go.Op.binOp Go.BinOp.eql 30 (Go.Operand.tmp 41) (Go.Operand.const (Go.Value.int Go.IntKind.i64 0)) 30, type := 4, pos := "law.go:19", after := #[{ on := 7, ground := Go.Ground.data }, { on := 6, ground := Go.Ground.guard }], guard := some (6, true) }) (v := ?_) rfl (Or.inl ⟨by rfl, ?_⟩) ?_; rotate_left; (focus (intro w hSw; (try dsimp only at hSw); go_simp; (try (with_reducible rfl)); done)); try simp only [Act.put, List.setIfInBounds_toArray, List.set_cons_zero, List.set_cons_succ]) | (refine wpL_calm (o := { dst := some 42, op := Go.Op.binOp Go.BinOp.eql 30 (Go.Operand.tmp 41) (Go.Operand.const (Go.Value.int Go.IntKind.i64 0)) 30, type := 4, pos := "law.go:19", after := #[{ on := 7, ground := Go.Ground.data }, { on := 6, ground := Go.Ground.guard }], guard := some (6, true) }) (v := undef) rfl (Or.inr ⟨by rfl, rfl⟩) ?_; try simp only [Act.put, List.setIfInBounds_toArray, List.set_cons_zero, List.set_cons_succ])
  (refine wpL_calm (o := { dst := some 43, op := Go.Op.pick (Go.Operand.tmp 40) (Go.Operand.tmp 42) (Go.Operand.const (Go.Value.bool false)), type := 4, pos := "law.go:19", after := #[{ on := 6, ground := Go.Ground.data }, { on := 8, ground := Go.Ground.data }], guard := none }) (v := ?_) rfl (Or.inl ⟨by rfl, ?_⟩) ?_; rotate_left; (focus (intro w hSw; (try dsimp only at hSw); go_simp; (try (with_reducible rfl)); done)); try simp only [Act.put, List.setIfInBounds_toArray, List.set_cons_zero, List.set_cons_succ])
  (refine wpL_calm (o := { dst := some 44, op := Go.Op.move (Go.Operand.tmp 43), type := 4, pos := "law.go:19", after := #[{ on := 9, ground := Go.Ground.data }, { on := 6, ground := Go.Ground.chain }], guard := none }) (v := ?_) rfl (Or.inl ⟨by rfl, ?_⟩) ?_; rotate_left; (focus (intro w hSw; (try dsimp only at hSw); go_simp; (try (with_reducible rfl)); done)); try simp only [Act.put, List.setIfInBounds_toArray, List.set_cons_zero, List.set_cons_succ])
  refine wpL_calm (o := { dst := some 45, op := Go.Op.load 34 (Go.Operand.tmp 3), type := 34, pos := "law.go:19", after := #[{ on := 10, ground := Go.Ground.guard }], guard := some (10, true) }) rfl (yieldsIf_load_mid (by rfl) _ _ rfl q3 0 rfl BA _ (fun _ h => range_dg h.1 HEA.out) Tryd.underlying34 rfl (by rw [HLA.out]; kernel_rfl)) ?_; rw [HEA.out]
  try simp only [Act.put, List.setIfInBounds_toArray, List.set_cons_zero, List.set_cons_succ]
  first | (refine wpL_calm (o := { dst := some 46, op := Go.Op.move (Go.Operand.tmp 2), type := 9, pos := "law.go:19", after := #[{ on := 10, ground := Go.Ground.guard }], guard := some (10, true) }) (v := ?_) rfl (Or.inl ⟨by rfl, ?_⟩) ?_; rotate_left; (focus (intro w hSw; (try dsimp only at hSw); go_simp; (try (with_reducible rfl)); done)); try simp only [Act.put, List.setIfInBounds_toArray, List.set_cons_zero, List.set_cons_succ]) | (refine wpL_calm (o := { dst := some 46, op := Go.Op.move (Go.Operand.tmp 2), type := 9, pos := "law.go:19", after := #[{ on := 10, ground := Go.Ground.guard }], guard := some (10, true) }) (v := undef) rfl (Or.inr ⟨by rfl, rfl⟩) ?_; try simp only [Act.put, List.setIfInBounds_toArray, List.set_cons_zero, List.set_cons_succ])
  first | (refine wpL_calm (o := { dst := some 47, op := Go.Op.binOp Go.BinOp.add 9 (Go.Operand.const (Go.Value.string { data := #[115, 116, 97, 114, 116, 1, 0] })) (Go.Operand.tmp 46) 9, type := 9, pos := "law.go:19", after := #[{ on := 12, ground := Go.Ground.data }, { on := 10, ground := Go.Ground.guard }], guard := some (10, true) }) (v := ?_) rfl (Or.inl ⟨by rfl, ?_⟩) ?_; rotate_left; (focus (intro w hSw; (try dsimp only at hSw); go_simp; (try (with_reducible rfl)); done)); try simp only [Act.put, List.setIfInBounds_toArray, List.set_cons_zero, List.set_cons_succ]) | (refine wpL_calm (o := { dst := some 47, op := Go.Op.binOp Go.BinOp.add 9 (Go.Operand.const (Go.Value.string { data := #[115, 116, 97, 114, 116, 1, 0] })) (Go.Operand.tmp 46) 9, type := 9, pos := "law.go:19", after := #[{ on := 12, ground := Go.Ground.data }, { on := 10, ground := Go.Ground.guard }], guard := some (10, true) }) (v := undef) rfl (Or.inr ⟨by rfl, rfl⟩) ?_; try simp only [Act.put, List.setIfInBounds_toArray, List.set_cons_zero, List.set_cons_succ])
  refine wpL_loud1 (o := { dst := some 48, op := Go.Op.call { callee := Go.Callee.value (Go.Operand.func 14), args := #[Go.Operand.tmp 47], argTypes := #[9] }, type := 34, pos := "law.go:19", after := #[{ on := 13, ground := Go.Ground.data }, { on := 10, ground := Go.Ground.chain }, { on := 10, ground := Go.Ground.guard }], guard := some (10, true) }) rfl (fun K hK => ?_)
  (go_simp; go_at_call 14; refine (HSA.out _ (hG.below B11.drew)).mono ?_; rintro e w12 ⟨rfl, b12⟩; have B12 := B11.drew.trans (b12.mono B11.size); have hr312 := (b12.block (w := w11.drew) q3 hl3).trans hr3; have hr612 := (b12.block (w := w11.drew) q6 hl6).trans hr6; have hd12 := (b12.block (w := w11.drew) q10 hl10).trans hd11)
  try go_wp2_with fail
  refine hK.out _ _ ?_ (fun hHeld => ?_)
  · (try dsimp only); exact ⟨hr312, hr612, hd12⟩
  clear hK K
  try simp only [Act.put, List.setIfInBounds_toArray, List.set_cons_zero, List.set_cons_succ]
  first | (refine wpL_calm (o := { dst := some 49, op := Go.Op.binOp Go.BinOp.eql 34 (Go.Operand.tmp 45) (Go.Operand.tmp 48) 34, type := 4, pos := "law.go:19", after := #[{ on := 11, ground := Go.Ground.data }, { on := 14, ground := Go.Ground.data }, { on := 10, ground := Go.Ground.guard }], guard := some (10, true) }) (v := ?_) rfl (Or.inl ⟨by rfl, ?_⟩) ?_; rotate_left; (focus (intro w hSw; (try dsimp only at hSw); go_simp; (try (with_reducible rfl)); done)); try simp only [Act.put, List.setIfInBounds_toArray, List.set_cons_zero, List.set_cons_succ]) | (refine wpL_calm (o := { dst := some 49, op := Go.Op.binOp Go.BinOp.eql 34 (Go.Operand.tmp 45) (Go.Operand.tmp 48) 34, type := 4, pos := "law.go:19", after := #[{ on := 11, ground := Go.Ground.data }, { on := 14, ground := Go.Ground.data }, { on := 10, ground := Go.Ground.guard }], guard := some (10, true) }) (v := undef) rfl (Or.inr ⟨by rfl, rfl⟩) ?_; try simp only [Act.put, List.setIfInBounds_toArray, List.set_cons_zero, List.set_cons_succ])
  (refine wpL_calm (o := { dst := some 50, op := Go.Op.pick (Go.Operand.tmp 44) (Go.Operand.tmp 49) (Go.Operand.const (Go.Value.bool false)), type := 4, pos := "law.go:19", after := #[{ on := 10, ground := Go.Ground.data }, { on := 15, ground := Go.Ground.data }], guard := none }) (v := ?_) rfl (Or.inl ⟨by rfl, ?_⟩) ?_; rotate_left; (focus (intro w hSw; (try dsimp only at hSw); go_simp; (try (with_reducible rfl)); done)); try simp only [Act.put, List.setIfInBounds_toArray, List.set_cons_zero, List.set_cons_succ])
  (refine wpL_calm (o := { dst := some 51, op := Go.Op.move (Go.Operand.tmp 50), type := 4, pos := "law.go:19", after := #[{ on := 16, ground := Go.Ground.data }, { on := 14, ground := Go.Ground.chain }], guard := none }) (v := ?_) rfl (Or.inl ⟨by rfl, ?_⟩) ?_; rotate_left; (focus (intro w hSw; (try dsimp only at hSw); go_simp; (try (with_reducible rfl)); done)); try simp only [Act.put, List.setIfInBounds_toArray, List.set_cons_zero, List.set_cons_succ])
  refine wpL_calm (o := { dst := some 52, op := Go.Op.load 34 (Go.Operand.tmp 5), type := 34, pos := "law.go:19", after := #[{ on := 17, ground := Go.Ground.guard }], guard := some (17, true) }) rfl (yieldsIf_load_mid (by rfl) _ _ rfl q6 0 rfl BB _ (fun _ h => range_dg h.2.1 HEB.out) Tryd.underlying34 rfl (by rw [HLB.out]; kernel_rfl)) ?_; rw [HEB.out]
  try simp only [Act.put, List.setIfInBounds_toArray, List.set_cons_zero, List.set_cons_succ]
  first | (refine wpL_calm (o := { dst := some 53, op := Go.Op.slice 34 (Go.Operand.tmp 3) none none none, type := 65, pos := "law.go:19", after := #[{ on := 17, ground := Go.Ground.guard }], guard := some (17, true) }) (v := ?_) rfl (Or.inl ⟨by rfl, ?_⟩) ?_; rotate_left; (focus (intro w hSw; (try dsimp only at hSw); go_simp; (try (with_reducible rfl)); done)); try simp only [Act.put, List.setIfInBounds_toArray, List.set_cons_zero, List.set_cons_succ]) | (refine wpL_calm (o := { dst := some 53, op := Go.Op.slice 34 (Go.Operand.tmp 3) none none none, type := 65, pos := "law.go:19", after := #[{ on := 17, ground := Go.Ground.guard }], guard := some (17, true) }) (v := undef) rfl (Or.inr ⟨by rfl, rfl⟩) ?_; try simp only [Act.put, List.setIfInBounds_toArray, List.set_cons_zero, List.set_cons_succ])
  refine wpL_calm (o := { dst := some 54, op := Go.Op.convert 65 9 (Go.Operand.tmp 53), type := 9, pos := "law.go:19", after := #[{ on := 19, ground := Go.Ground.data }, { on := 17, ground := Go.Ground.guard }], guard := some (17, true) }) (v := .string sA) rfl (Or.inl ⟨by rfl, ?_⟩) ?_; (focus (intro w hSw; have hl := HCV.out _ _ hSw.1; go_simp))
  try simp only [Act.put, List.setIfInBounds_toArray, List.set_cons_zero, List.set_cons_succ]
  first | (refine wpL_calm (o := { dst := some 55, op := Go.Op.binOp Go.BinOp.add 9 (Go.Operand.const (Go.Value.string { data := #[110, 101, 120, 116] })) (Go.Operand.tmp 54) 9, type := 9, pos := "law.go:19", after := #[{ on := 20, ground := Go.Ground.data }, { on := 17, ground := Go.Ground.guard }], guard := some (17, true) }) (v := ?_) rfl (Or.inl ⟨by rfl, ?_⟩) ?_; rotate_left; (focus (intro w hSw; (try dsimp only at hSw); go_simp; (try (with_reducible rfl)); done)); try simp only [Act.put, List.setIfInBounds_toArray, List.set_cons_zero, List.set_cons_succ]) | (refine wpL_calm (o := { dst := some 55, op := Go.Op.binOp Go.BinOp.add 9 (Go.Operand.const (Go.Value.string { data := #[110, 101, 120, 116] })) (Go.Operand.tmp 54) 9, type := 9, pos := "law.go:19", after := #[{ on := 20, ground := Go.Ground.data }, { on := 17, ground := Go.Ground.guard }], guard := some (17, true) }) (v := undef) rfl (Or.inr ⟨by rfl, rfl⟩) ?_; try simp only [Act.put, List.setIfInBounds_toArray, List.set_cons_zero, List.set_cons_succ])
  first | (refine wpL_calm (o := { dst := some 56, op := Go.Op.move (Go.Operand.tmp 2), type := 9, pos := "law.go:19", after := #[{ on := 17, ground := Go.Ground.guard }], guard := some (17, true) }) (v := ?_) rfl (Or.inl ⟨by rfl, ?_⟩) ?_; rotate_left; (focus (intro w hSw; (try dsimp only at hSw); go_simp; (try (with_reducible rfl)); done)); try simp only [Act.put, List.setIfInBounds_toArray, List.set_cons_zero, List.set_cons_succ]) | (refine wpL_calm (o := { dst := some 56, op := Go.Op.move (Go.Operand.tmp 2), type := 9, pos := "law.go:19", after := #[{ on := 17, ground := Go.Ground.guard }], guard := some (17, true) }) (v := undef) rfl (Or.inr ⟨by rfl, rfl⟩) ?_; try simp only [Act.put, List.setIfInBounds_toArray, List.set_cons_zero, List.set_cons_succ])
  first | (refine wpL_calm (o := { dst := some 57, op := Go.Op.binOp Go.BinOp.add 9 (Go.Operand.tmp 55) (Go.Operand.tmp 56) 9, type := 9, pos := "law.go:19", after := #[{ on := 21, ground := Go.Ground.data }, { on := 22, ground := Go.Ground.data }, { on := 17, ground := Go.Ground.guard }], guard := some (17, true) }) (v := ?_) rfl (Or.inl ⟨by rfl, ?_⟩) ?_; rotate_left; (focus (intro w hSw; (try dsimp only at hSw); go_simp; (try (with_reducible rfl)); done)); try simp only [Act.put, List.setIfInBounds_toArray, List.set_cons_zero, List.set_cons_succ]) | (refine wpL_calm (o := { dst := some 57, op := Go.Op.binOp Go.BinOp.add 9 (Go.Operand.tmp 55) (Go.Operand.tmp 56) 9, type := 9, pos := "law.go:19", after := #[{ on := 21, ground := Go.Ground.data }, { on := 22, ground := Go.Ground.data }, { on := 17, ground := Go.Ground.guard }], guard := some (17, true) }) (v := undef) rfl (Or.inr ⟨by rfl, rfl⟩) ?_; try simp only [Act.put, List.setIfInBounds_toArray, List.set_cons_zero, List.set_cons_succ])
  refine wpL_loud1 (o := { dst := some 58, op := Go.Op.call { callee := Go.Callee.value (Go.Operand.func 14), args := #[Go.Operand.tmp 57], argTypes := #[9] }, type := 34, pos := "law.go:19", after := #[{ on := 23, ground := Go.Ground.data }, { on := 17, ground := Go.Ground.chain }, { on := 17, ground := Go.Ground.guard }], guard := some (17, true) }) rfl (fun K hK => ?_)
  (go_simp; go_at_call 14; refine (HSB.out _ (hG.below B12)).mono ?_; rintro e w13 ⟨rfl, b13⟩; have B13 := B12.trans (b13.mono B12.size))
  try go_wp2_with fail
  refine hK.out _ _ ?_ (fun hHeld => ?_)
  · (try dsimp only); exact ⟨(b13.block q3 (Array.getElem?_eq_some_iff.1 hr312).1).trans hr312, (b13.block q6 (Array.getElem?_eq_some_iff.1 hr612).1).trans hr612, (b13.block q10 (Array.getElem?_eq_some_iff.1 hd12).1).trans hd12⟩
  clear hK K
  try simp only [Act.put, List.setIfInBounds_toArray, List.set_cons_zero, List.set_cons_succ]
  first | (refine wpL_calm (o := { dst := some 59, op := Go.Op.binOp Go.BinOp.eql 34 (Go.Operand.tmp 52) (Go.Operand.tmp 58) 34, type := 4, pos := "law.go:19", after := #[{ on := 18, ground := Go.Ground.data }, { on := 24, ground := Go.Ground.data }, { on := 17, ground := Go.Ground.guard }], guard := some (17, true) }) (v := ?_) rfl (Or.inl ⟨by rfl, ?_⟩) ?_; rotate_left; (focus (intro w hSw; (try dsimp only at hSw); go_simp; (try (with_reducible rfl)); done)); try simp only [Act.put, List.setIfInBounds_toArray, List.set_cons_zero, List.set_cons_succ]) | (refine wpL_calm (o := { dst := some 59, op := Go.Op.binOp Go.BinOp.eql 34 (Go.Operand.tmp 52) (Go.Operand.tmp 58) 34, type := 4, pos := "law.go:19", after := #[{ on := 18, ground := Go.Ground.data }, { on := 24, ground := Go.Ground.data }, { on := 17, ground := Go.Ground.guard }], guard := some (17, true) }) (v := undef) rfl (Or.inr ⟨by rfl, rfl⟩) ?_; try simp only [Act.put, List.setIfInBounds_toArray, List.set_cons_zero, List.set_cons_succ])
  (refine wpL_calm (o := { dst := some 60, op := Go.Op.pick (Go.Operand.tmp 51) (Go.Operand.tmp 59) (Go.Operand.const (Go.Value.bool false)), type := 4, pos := "law.go:19", after := #[{ on := 17, ground := Go.Ground.data }, { on := 25, ground := Go.Ground.data }], guard := none }) (v := ?_) rfl (Or.inl ⟨by rfl, ?_⟩) ?_; rotate_left; (focus (intro w hSw; (try dsimp only at hSw); go_simp; (try (with_reducible rfl)); done)); try simp only [Act.put, List.setIfInBounds_toArray, List.set_cons_zero, List.set_cons_succ])
  (refine wpL_calm (o := { dst := some 61, op := Go.Op.move (Go.Operand.tmp 60), type := 4, pos := "law.go:19", after := #[{ on := 26, ground := Go.Ground.data }, { on := 24, ground := Go.Ground.chain }], guard := none }) (v := ?_) rfl (Or.inl ⟨by rfl, ?_⟩) ?_; rotate_left; (focus (intro w hSw; (try dsimp only at hSw); go_simp; (try (with_reducible rfl)); done)); try simp only [Act.put, List.setIfInBounds_toArray, List.set_cons_zero, List.set_cons_succ])
  refine wpL_calm (o := { dst := some 62, op := Go.Op.load 34 (Go.Operand.tmp 7), type := 34, pos := "law.go:19", after := #[{ on := 27, ground := Go.Ground.guard }], guard := some (27, true) }) rfl (yieldsIf_load_mid (by rfl) _ _ rfl q10 0 rfl BB _ (fun _ h => range_dg h.2.2 HEB.out) Tryd.underlying34 rfl (by rw [HLB.out]; kernel_rfl)) ?_; rw [HEB.out]
  try simp only [Act.put, List.setIfInBounds_toArray, List.set_cons_zero, List.set_cons_succ]
  refine wpL_calm (o := { dst := some 63, op := Go.Op.load 34 (Go.Operand.tmp 5), type := 34, pos := "law.go:19", after := #[{ on := 27, ground := Go.Ground.guard }], guard := some (27, true) }) rfl (yieldsIf_load_mid (by rfl) _ _ rfl q6 0 rfl BB _ (fun _ h => range_dg h.2.1 HEB.out) Tryd.underlying34 rfl (by rw [HLB.out]; kernel_rfl)) ?_; rw [HEB.out]
  try simp only [Act.put, List.setIfInBounds_toArray, List.set_cons_zero, List.set_cons_succ]
  first | (refine wpL_calm (o := { dst := some 64, op := Go.Op.binOp Go.BinOp.eql 34 (Go.Operand.tmp 62) (Go.Operand.tmp 63) 34, type := 4, pos := "law.go:19", after := #[{ on := 28, ground := Go.Ground.data }, { on := 29, ground := Go.Ground.data }, { on := 27, ground := Go.Ground.guard }], guard := some (27, true) }) (v := ?_) rfl (Or.inl ⟨by rfl, ?_⟩) ?_; rotate_left; (focus (intro w hSw; (try dsimp only at hSw); go_simp; (try (with_reducible rfl)); done)); try simp only [Act.put, List.setIfInBounds_toArray, List.set_cons_zero, List.set_cons_succ]) | (refine wpL_calm (o := { dst := some 64, op := Go.Op.binOp Go.BinOp.eql 34 (Go.Operand.tmp 62) (Go.Operand.tmp 63) 34, type := 4, pos := "law.go:19", after := #[{ on := 28, ground := Go.Ground.data }, { on := 29, ground := Go.Ground.data }, { on := 27, ground := Go.Ground.guard }], guard := some (27, true) }) (v := undef) rfl (Or.inr ⟨by rfl, rfl⟩) ?_; try simp only [Act.put, List.setIfInBounds_toArray, List.set_cons_zero, List.set_cons_succ])
  (refine wpL_calm (o := { dst := some 65, op := Go.Op.pick (Go.Operand.tmp 61) (Go.Operand.tmp 64) (Go.Operand.const (Go.Value.bool false)), type := 4, pos := "law.go:19", after := #[{ on := 27, ground := Go.Ground.data }, { on := 30, ground := Go.Ground.data }], guard := none }) (v := ?_) rfl (Or.inl ⟨by rfl, ?_⟩) ?_; rotate_left; (focus (intro w hSw; (try dsimp only at hSw); go_simp; (try (with_reducible rfl)); done)); try simp only [Act.put, List.setIfInBounds_toArray, List.set_cons_zero, List.set_cons_succ])
  (refine wpL_calm (o := { dst := some 66, op := Go.Op.move (Go.Operand.tmp 65), type := 4, pos := "law.go:19", after := #[{ on := 31, ground := Go.Ground.data }, { on := 27, ground := Go.Ground.chain }], guard := none }) (v := ?_) rfl (Or.inl ⟨by rfl, ?_⟩) ?_; rotate_left; (focus (intro w hSw; (try dsimp only at hSw); go_simp; (try (with_reducible rfl)); done)); try simp only [Act.put, List.setIfInBounds_toArray, List.set_cons_zero, List.set_cons_succ])
  first | (refine wpL_calm (o := { dst := some 67, op := Go.Op.move (Go.Operand.tmp 1), type := 23, pos := "law.go:19", after := #[{ on := 32, ground := Go.Ground.guard }], guard := some (32, true) }) (v := ?_) rfl (Or.inl ⟨by rfl, ?_⟩) ?_; rotate_left; (focus (intro w hSw; (try dsimp only at hSw); go_simp; (try (with_reducible rfl)); done)); try simp only [Act.put, List.setIfInBounds_toArray, List.set_cons_zero, List.set_cons_succ]) | (refine wpL_calm (o := { dst := some 67, op := Go.Op.move (Go.Operand.tmp 1), type := 23, pos := "law.go:19", after := #[{ on := 32, ground := Go.Ground.guard }], guard := some (32, true) }) (v := undef) rfl (Or.inr ⟨by rfl, rfl⟩) ?_; try simp only [Act.put, List.setIfInBounds_toArray, List.set_cons_zero, List.set_cons_succ])
  refine wpL_loud1 (o := { dst := some 68, op := Go.Op.call { callee := Go.Callee.value (Go.Operand.func 15), args := #[Go.Operand.tmp 67], argTypes := #[23] }, type := 3, pos := "law.go:19", after := #[{ on := 33, ground := Go.Ground.data }, { on := 32, ground := Go.Ground.chain }, { on := 32, ground := Go.Ground.guard }], guard := some (32, true) }) rfl (fun K hK => ?_)
  (go_simp; go_at_call 15; refine (orLen_any _ _ _ _ _ _ _ w13 (((HP11.out.below ((Below.refl _ _).drew)).below b12).below b13)).mono ?_; rintro e w14 ⟨rfl, rfl⟩; rw [HL2.out])
  try go_wp2_with fail
  refine hK.out _ _ ?_ (fun hHeld => ?_)
  · (try dsimp only); exact ⟨(b13.block q3 (Array.getElem?_eq_some_iff.1 hr312).1).trans hr312, (b13.block q6 (Array.getElem?_eq_some_iff.1 hr612).1).trans hr612, (b13.block q10 (Array.getElem?_eq_some_iff.1 hd12).1).trans hd12⟩
  clear hK K
  try simp only [Act.put, List.setIfInBounds_toArray, List.set_cons_zero, List.set_cons_succ]
  first | (refine wpL_calm (o := { dst := some 69, op := Go.Op.binOp Go.BinOp.eql 3 (Go.Operand.tmp 68) (Go.Operand.const (Go.Value.int Go.IntKind.i64 2)) 3, type := 4, pos := "law.go:19", after := #[{ on := 34, ground := Go.Ground.data }, { on := 32, ground := Go.Ground.guard }], guard := some (32, true) }) (v := ?_) rfl (Or.inl ⟨by rfl, ?_⟩) ?_; rotate_left; (focus (intro w hSw; (try dsimp only at hSw); go_simp; (try (with_reducible rfl)); done)); try simp only [Act.put, List.setIfInBounds_toArray, List.set_cons_zero, List.set_cons_succ]) | (refine wpL_calm (o := { dst := some 69, op := Go.Op.binOp Go.BinOp.eql 3 (Go.Operand.tmp 68) (Go.Operand.const (Go.Value.int Go.IntKind.i64 2)) 3, type := 4, pos := "law.go:19", after := #[{ on := 34, ground := Go.Ground.data }, { on := 32, ground := Go.Ground.guard }], guard := some (32, true) }) (v := undef) rfl (Or.inr ⟨by rfl, rfl⟩) ?_; try simp only [Act.put, List.setIfInBounds_toArray, List.set_cons_zero, List.set_cons_succ])
  (refine wpL_calm (o := { dst := some 70, op := Go.Op.pick (Go.Operand.tmp 66) (Go.Operand.tmp 69) (Go.Operand.const (Go.Value.bool false)), type := 4, pos := "law.go:19", after := #[{ on := 32, ground := Go.Ground.data }, { on := 35, ground := Go.Ground.data }], guard := none }) (v := ?_) rfl (Or.inl ⟨by rfl, ?_⟩) ?_; rotate_left; (focus (intro w hSw; (try dsimp only at hSw); go_simp; (try (with_reducible rfl)); done)); try simp only [Act.put, List.setIfInBounds_toArray, List.set_cons_zero, List.set_cons_succ])
  (refine wpL_calm (o := { dst := some 0, op := Go.Op.assign (Go.Operand.tmp 70), type := 4, pos := "law.go:19", after := #[{ on := 36, ground := Go.Ground.data }, { on := 34, ground := Go.Ground.chain }, { on := 0, ground := Go.Ground.phase }, { on := 1, ground := Go.Ground.phase }, { on := 2, ground := Go.Ground.phase }, { on := 3, ground := Go.Ground.phase }, { on := 4, ground := Go.Ground.phase }, { on := 5, ground := Go.Ground.phase }, { on := 6, ground := Go.Ground.phase }, { on := 7, ground := Go.Ground.phase }, { on := 8, ground := Go.Ground.phase }, { on := 9, ground := Go.Ground.phase }, { on := 10, ground := Go.Ground.phase }, { on := 11, ground := Go.Ground.phase }, { on := 12, ground := Go.Ground.phase }, { on := 13, ground := Go.Ground.phase }, { on := 14, ground := Go.Ground.phase }, { on := 15, ground := Go.Ground.phase }, { on := 16, ground := Go.Ground.phase }, { on := 17, ground := Go.Ground.phase }, { on := 18, ground := Go.Ground.phase }, { on := 19, ground := Go.Ground.phase }, { on := 20, ground := Go.Ground.phase }, { on := 21, ground := Go.Ground.phase }, { on := 22, ground := Go.Ground.phase }, { on := 23, ground := Go.Ground.phase }, { on := 24, ground := Go.Ground.phase }, { on := 25, ground := Go.Ground.phase }, { on := 26, ground := Go.Ground.phase }, { on := 27, ground := Go.Ground.phase }, { on := 28, ground := Go.Ground.phase }, { on := 29, ground := Go.Ground.phase }, { on := 30, ground := Go.Ground.phase }, { on := 31, ground := Go.Ground.phase }, { on := 32, ground := Go.Ground.phase }, { on := 33, ground := Go.Ground.phase }, { on := 34, ground := Go.Ground.phase }, { on := 35, ground := Go.Ground.phase }, { on := 36, ground := Go.Ground.phase }], guard := none }) (v := ?_) rfl (Or.inl ⟨by rfl, ?_⟩) ?_; rotate_left; (focus (intro w hSw; (try dsimp only at hSw); go_simp; (try (with_reducible rfl)); done)); try simp only [Act.put, List.setIfInBounds_toArray, List.set_cons_zero, List.set_cons_succ])
  refine wpL_nil ?_
  refine NoPanic.normal ?_
  go_wp2_with fail
  go_ret
  exact ⟨rfl, B13⟩
end Go.Proofs.YtaneecmfgfkaaaaDoor
