/- The law NodeRoots (made by gennow.py). -/
import Derived.Test.YtaneecmfgfkaaaaDoorNoU
import Derived.Test.YtaneecmfgfkaaaaDoorNoV
namespace Go.Proofs.YtaneecmfgfkaaaaDoor
open Go.RowKit Go.Deep Go.Maps Go.ChangeShapes Go.WideShapes
set_option linter.unusedVariables false
set_option linter.unusedSimpArgs false
theorem slice_cap2 {H : Type} {enc : TypeId × Value → H} {t e : TypeId} {a : Option Addr} {len cap : Nat} {d : DataW H} {p : List MemPlace} {w : World} (ht : Tryd.prog.underlying t = some (.slice e)) (h : DataW.Trod enc Tryd.prog w 0 (fun _ => true) true t (.slice a len cap) d p) : len ≤ cap ∧ cap ≤ maxLen := by
  obtain ⟨fuel, hf⟩ := h
  rcases open_slice ht hf with ⟨hcs, _⟩ | ⟨a', len', cap', m, n, D, Pl, hcs, hb, hl, hm, hmm, hx, hi⟩
  · simp [Value.cells] at hcs
    obtain ⟨rfl, rfl, rfl⟩ := hcs
    exact ⟨Nat.le_refl _, Nat.zero_le _⟩
  · simp [Value.cells] at hcs
    obtain ⟨rfl, rfl, rfl⟩ := hcs
    exact ⟨by omega, by omega⟩
theorem DigAt.take {w : World} {a : Option Addr} {X : List (List UInt8)} (h : DigAt w a X) (n : Nat) : DigAt w a (X.take n) := fun h0 => by
  obtain ⟨g, o, e, hg, hr⟩ := h (by rw [List.length_take] at h0; omega)
  refine ⟨g, o, e, hg, fun i hi => ?_⟩
  rw [List.getElem_take]
  exact hr i (by rw [List.length_take] at hi; omega)
attribute [local irreducible] digA sumL z32 sB bv txs lv smB rootD sumsL
set_option maxRecDepth 100000 in
set_option maxHeartbeats 4000000 in
/-- Root of another number of sums. -/
theorem root_form (o : Option Addr) (la : Option Addr) (n c : Nat) (w : World) (hn : n ≠ 64) : Calls Tryd.prog 24 #[.pointer o, .slice la n c] w fun e w' => e = .returned (.tuple #[.agg z32, .int .i64 6]) ∧ Below w.heap.size w w' := by
  have hz := zero_dig
  have e1 : ((n : Int) != 64) = true := by rw [bne_iff_ne]; omega
  obtain ⟨w1, HW1, hr1, B1⟩ := made_zN w
  go_enter Tryd.func24, Tryd.ntmps24
  go_upto_region 1 with fail
  rw [HW1.out]
  clear HW1
  go_wp2_with (refine wpList_store_row rfl _ _ _ rfl w.heap.size z32 rfl rfl 34 _ hr1 (by rw [z32_size']; kernel_rfl) (by rw [z32_size']) (by with_unfolding_all exact z32_one) ?_)
  refine bodyPost_ret_by (results_ct rfl _ _ w.heap.size 34 z32 (0, 0) _ rfl (setRow_heap _ _ _ z32 34 (0, 0) hr1) Tryd.underlying34 rfl (by rw [z32_size']; kernel_rfl)) rfl ⟨rfl, ?_⟩
  exact below_setRow B1 (Nat.le_refl _) _
set_option maxRecDepth 100000 in
set_option maxHeartbeats 8000000 in
theorem nodeRoots_64 (X : List (List UInt8)) (la : Option Addr) (c : Nat) (w : World) (hG : Gl w) (hn : X.length = 64) (hX3 : ∀ x ∈ X, x.length = 32) (hTX : DigAt w la X) :
    Calls Tryd.prog 7 #[.slice la 64 c] w fun e w' => e = .returned (.bool true) ∧ Below w.heap.size w w' := by
  have hz := zero_dig
  have hgf := hG.sf
  have hgk := hG.sk
  have HSX : Hid (∀ w', Below w.heap.size w w' → Calls Tryd.prog 25 #[.slice la 64 c] w' fun e w'' => ∃ g c', e = .returned (.slice (some ⟨g, 0, none⟩) 64 c') ∧ RowD w'' g c' 64 (dg (sumsL X)) ∧ w'.heap.size ≤ g ∧ Below w'.heap.size w' w'' ∧ c' ≤ 9223372036854775807) := Lib.hid (fun w' hb => sums_anyc X la 64 c w' (hG.below hb) hn (by omega) hX3 (hTX.below hb))
  have HL1 := Lib.hid (sumsL_len X)
  have H31 := Lib.hid (sumsL_32 X hX3)
  have HRU : Hid (∀ (o : Option Addr) (Z : Option OrS) (w' : World), Below w.heap.size w w' → OrX w.heap.size w' o Z → FewX Z 1000 → Calls Tryd.prog 24 #[.pointer o, .slice la 64 c] w' fun e w'' => ∃ Z', e = .returned (.tuple #[.agg (digA (rootD 6 (sumsL X))), .int .i64 0]) ∧ OrX w.heap.size w'' o Z' ∧ SumsX Z Z' (txs X 6 0) ∧ Below w.heap.size w' w'' ∧ KeptX w' w'' Z Z') := Lib.hid (fun o Z w' hb h2 h3 => by
    rw [sumsL_same X hn]
    exact root_x w.heap.size o Z X la c w' (hG.below hb) hgf hgk h2 h3 hn hX3 (hTX.below hb))
  have HR1 := Lib.hid (rootD_len (sumsL X) H31.out 6 HL1.out)
  have HRT : Hid (∀ (o : Option Addr) (Z : Option OrS) (g c0 : Nat) (w' : World), Gl w' → OrX w.heap.size w' o Z → FewX Z 1000 → RowD w' g c0 64 (dg (sumsL X)) → Calls Tryd.prog 24 #[.pointer o, .slice (some ⟨g, 0, none⟩) 64 c0] w' fun e w'' => ∃ Z', e = .returned (.tuple #[.agg (digA (rootD 6 (sumsL X))), .int .i64 0]) ∧ OrX w.heap.size w'' o Z' ∧ SumsX Z Z' (txs (sumsL X) 6 0) ∧ Below w.heap.size w' w'' ∧ KeptX w' w'' Z Z') := Lib.hid (fun o Z g c0 w' h1 h2 h3 h4 => root_x w.heap.size o Z (sumsL X) (some ⟨g, 0, none⟩) c0 w' h1 hgf hgk h2 h3 HL1.out H31.out (h4.digAt HL1.out))
  have HLR : Hid (∀ (g c0 : Nat) (w' : World), Gl w' → RowD w' g c0 64 (dg (sumsL X)) → c0 ≤ 9223372036854775807 → Calls Tryd.prog 26 #[.slice (some ⟨g, 0, none⟩) 64 c0] w' fun e w'' => e = .returned (.agg (digA (rootD 6 (sumsL X)))) ∧ Below w'.heap.size w' w'') := Lib.hid (fun g c0 w' h1 h2 h3 => lawRoot_any 6 (Nat.le_refl _) (sumsL X) g 0 c0 w' h1 HL1.out H31.out (fun i hi => by have := h2.range i (by have := HL1.out; omega); rw [Nat.zero_add]; rw [dg_at (sumsL X) i hi] at this; exact this) h2.lt (by obtain ⟨_, _, _, q, _⟩ := h2.ex; exact q) h3)
  have z1 : (digA (rootD 6 (sumsL X))).size = 32 := by with_unfolding_all (rw [digA_size, HR1.out])
  have o1 : (digA (rootD 6 (sumsL X))).all (·.oneCell') = true := by with_unfolding_all exact digA_one _
  have HNEQ := Lib.hid (neq_dig2 (rootD 6 (sumsL X)) (rootD 6 (sumsL X)) HR1.out HR1.out)
  have HEQL := Lib.hid (eql_dig2 (rootD 6 (sumsL X)) (rootD 6 (sumsL X)) HR1.out HR1.out)
  simp only [beq_self_eq_true, Bool.not_true] at HNEQ HEQL
  have HLD1 : Hid (∀ w' g, w'.heap[g]? = some (.cells (digA (rootD 6 (sumsL X))) 34 (0, 0)) → LoadedA Tryd.prog 34 w' g (digA (rootD 6 (sumsL X)))) := Lib.hid (fun w' g h => loadedA_d HR1.out h)
  have HBD : Hid ((bv (rootD 6 (sumsL X))).toArray = digA (rootD 6 (sumsL X))) := Lib.hid (by with_unfolding_all rfl)
  have HBL : Hid ((bv (rootD 6 (sumsL X))).length = 32) := Lib.hid ((bv_len _).trans HR1.out)
  clear HL1 H31 HR1 hX3 hTX hn
  generalize bv (rootD 6 (sumsL X)) = BVr at *
  generalize digA (rootD 6 (sumsL X)) = D1 at *
  obtain ⟨D2, HD2⟩ : ∃ D2, Hid (D1 = D2) := ⟨_, Lib.hid rfl⟩
  have hneq : ∀ w, (binOp .neq 34 (.agg D1) (.agg D2)).run Tryd.prog w = .ok (.bool false) w := by
    obtain rfl := HD2.out
    exact HNEQ.out
  rw [HD2.out] at HLR
  clear HD2 HNEQ
  obtain ⟨D3, HD3⟩ : ∃ D3, Hid (D1 = D3) := ⟨_, Lib.hid rfl⟩
  have heql : ∀ w, (binOp .eql 34 (.agg D3) (.agg D1)).run Tryd.prog w = .ok (.bool true) w := by
    obtain rfl := HD3.out
    exact HEQL.out
  have z3 : D3.size = 32 := by rw [← HD3.out]; exact z1
  have o3 : D3.all (·.oneCell') = true := by rw [← HD3.out]; exact o1
  have HLD3 : Hid (∀ w' g, w'.heap[g]? = some (.cells D3 34 (0, 0)) → LoadedA Tryd.prog 34 w' g D3) := Lib.hid (by rw [← HD3.out]; exact HLD1.out)
  rw [HD3.out] at HRU
  clear HD3 HEQL
  go_enter Tryd.func7, Tryd.ntmps7
  go_wp2_with fail
  refine (HSX.out w (Below.refl _ _)).mono ?_
  rintro e w1 ⟨g1, c1, rfl, R1, hg1, B1, hcc1⟩
  have hX1 : OrX w.heap.size w1 none none := by with_unfolding_all exact B1.size
  go_wp2_with fail
  refine (HRT.out none none g1 c1 w1 (hG.below B1) hX1 (FewX.none _) R1).mono ?_
  rintro e w2 ⟨X2, rfl, hX2, hS2, b2, K2⟩
  have B2 := B1.trans b2
  clear hX1 b2 B1 hS2 hX2 R1 hg1 hcc1 K2 HRT
  obtain ⟨w3, HW3, hd3, b3⟩ := stored_dg w2 D1
  go_upto_region 4 with (refine wpList_store_row rfl _ _ _ rfl w2.heap.size D1 rfl rfl 34 _ (heap_alloc_new _ _) (by rw [z1]; kernel_rfl) (by rw [z1, z32_size']) o1 ?_)
  rw [HW3.out]
  clear HW3
  have B3 := B2.trans (b3.mono B2.size)
  have hl3 := (Array.getElem?_eq_some_iff.1 hd3).1
  have hw3 : w.heap.size ≤ w2.heap.size := B2.size
  clear b3 B2
  generalize w2.heap.size = q3 at *
  go_wp2_with fail
  refine (new_x w.heap.size w3 B3.size).mono ?_
  rintro e w4 ⟨rfl, hX4, b4⟩
  have few4 : FewX (some ⟨w3.heap.size + 1, [], .slice none 0 0, .slice none 0 0, w3.heap.size, .map []⟩) 1000 := (FewX.zero w3 _ _ _ _ _).mono (by omega)
  have hf4 : FreeX (some ⟨w3.heap.size + 1, [], .slice none 0 0, .slice none 0 0, w3.heap.size, .map []⟩) q3 := fun S e => by
    cases e
    exact ⟨by simp only; omega, by simp only; omega, by simp [Value.ownBlock], by simp [Value.ownBlock]⟩
  generalize (some ⟨w3.heap.size + 1, [], .slice none 0 0, .slice none 0 0, w3.heap.size, .map []⟩ : Option OrS) = X4 at *
  have hd4 := (b4.block q3 hl3).trans hd3
  have B4 := B3.trans (b4.mono B3.size)
  clear b4 hd3 hl3 B3
  go_wp2_with fail
  refine (HRU.out _ X4 w4 B4 hX4 few4).mono ?_
  rintro e w5 ⟨X5, rfl, _, _, b5, K5⟩
  have hd5 := K5.keep _ _ hd4 hf4
  have B5 := B4.trans b5
  clear K5 b5 hd4 B4 hf4 few4 hX4 HRU
  obtain ⟨w6, HW6, hd6, b6⟩ := stored_dg w5 D3
  go_upto_region 5 with (refine wpList_store_row rfl _ _ _ rfl w5.heap.size D3 rfl rfl 34 _ (heap_alloc_new _ _) (by rw [z3]; kernel_rfl) (by rw [z3, z32_size']) o3 ?_)
  rw [HW6.out]
  clear HW6
  have hd36 := (b6.block q3 (Array.getElem?_eq_some_iff.1 hd5).1).trans hd5
  have B6 := B5.trans (b6.mono B5.size)
  have hl6 := (Array.getElem?_eq_some_iff.1 hd6).1
  have hl36 := (Array.getElem?_eq_some_iff.1 hd36).1
  clear b6 hd5 B5
  generalize w5.heap.size = q5 at *
  refine wp_region_lin (S := (fun w' => w'.heap[q3]? = some (.cells D1 34 (0, 0)))) [(0, true), (1, true), (2, true), (3, true), (4, true), (5, false), (6, false), (7, true), (8, true)] (by kernel_rfl) (by kernel_rfl) rfl (by kernel_rfl) ?_ (fun hHeld => ?_)
  · (try dsimp only); exact hd36
  (refine wpL_calm (o := { dst := some 24, op := Go.Op.move (Go.Operand.tmp 4), type := 30, pos := "law.go:120", after := #[], guard := none }) (v := ?_) rfl (Or.inl ⟨by rfl, ?_⟩) ?_; rotate_left; (focus (intro w hSw; (try dsimp only at hSw); go_simp; (try (with_reducible rfl)); done)); try simp only [Act.put, List.setIfInBounds_toArray, List.set_cons_zero, List.set_cons_succ])
  (refine wpL_calm (o := { dst := some 25, op := Go.Op.binOp Go.BinOp.neq 30 (Go.Operand.tmp 24) (Go.Operand.const (Go.Value.int Go.IntKind.i64 0)) 30, type := 4, pos := "law.go:120", after := #[{ on := 0, ground := Go.Ground.data }], guard := none }) (v := ?_) rfl (Or.inl ⟨by rfl, ?_⟩) ?_; rotate_left; (focus (intro w hSw; (try dsimp only at hSw); go_simp; (try (with_reducible rfl)); done)); try simp only [Act.put, List.setIfInBounds_toArray, List.set_cons_zero, List.set_cons_succ])
  (refine wpL_calm (o := { dst := some 26, op := Go.Op.move (Go.Operand.tmp 25), type := 4, pos := "law.go:120", after := #[{ on := 1, ground := Go.Ground.data }], guard := none }) (v := ?_) rfl (Or.inl ⟨by rfl, ?_⟩) ?_; rotate_left; (focus (intro w hSw; (try dsimp only at hSw); go_simp; (try (with_reducible rfl)); done)); try simp only [Act.put, List.setIfInBounds_toArray, List.set_cons_zero, List.set_cons_succ])
  refine wpL_calm (o := { dst := some 27, op := Go.Op.load 34 (Go.Operand.tmp 3), type := 34, pos := "law.go:120", after := #[{ on := 2, ground := Go.Ground.guard }], guard := some (2, false) }) rfl (yieldsIf_load_mid (by rfl) _ _ rfl q3 0 rfl BVr _ (fun _ h => range_dg h HBD.out) Tryd.underlying34 rfl (by rw [HBL.out]; kernel_rfl)) ?_; rw [HBD.out]
  try simp only [Act.put, List.setIfInBounds_toArray, List.set_cons_zero, List.set_cons_succ]
  first | (refine wpL_calm (o := { dst := some 28, op := Go.Op.move (Go.Operand.tmp 0), type := 54, pos := "law.go:120", after := #[{ on := 2, ground := Go.Ground.guard }], guard := some (2, false) }) (v := ?_) rfl (Or.inl ⟨by rfl, ?_⟩) ?_; rotate_left; (focus (intro w hSw; (try dsimp only at hSw); go_simp; (try (with_reducible rfl)); done)); try simp only [Act.put, List.setIfInBounds_toArray, List.set_cons_zero, List.set_cons_succ]) | (refine wpL_calm (o := { dst := some 28, op := Go.Op.move (Go.Operand.tmp 0), type := 54, pos := "law.go:120", after := #[{ on := 2, ground := Go.Ground.guard }], guard := some (2, false) }) (v := undef) rfl (Or.inr ⟨by rfl, rfl⟩) ?_; try simp only [Act.put, List.setIfInBounds_toArray, List.set_cons_zero, List.set_cons_succ])
  refine wpL_loud1 (o := { dst := some 29, op := Go.Op.call { callee := Go.Callee.value (Go.Operand.func 25), args := #[Go.Operand.tmp 28], argTypes := #[54] }, type := 54, pos := "law.go:120", after := #[{ on := 4, ground := Go.Ground.data }, { on := 2, ground := Go.Ground.chain }, { on := 2, ground := Go.Ground.guard }], guard := some (2, false) }) rfl (fun K hK => ?_)
  (go_simp; go_at_call 25; refine (HSX.out _ B6.drew).mono ?_; rintro e w7 ⟨g7, c7, rfl, R7, hg7, b7, hcc7⟩; have B7 := B6.drew.trans (b7.mono B6.size); have hd37 := (b7.block q3 hl36).trans (show w6.drew.heap[q3]? = _ from hd36); have hd67 := (b7.block q5 hl6).trans (show w6.drew.heap[q5]? = _ from hd6))
  try go_wp2_with fail
  refine hK.out _ _ ?_ (fun hHeld => ?_)
  · (try dsimp only); exact hd37
  clear hK K
  try simp only [Act.put, List.setIfInBounds_toArray, List.set_cons_zero, List.set_cons_succ]
  refine wpL_loud1 (o := { dst := some 30, op := Go.Op.call { callee := Go.Callee.value (Go.Operand.func 26), args := #[Go.Operand.tmp 29], argTypes := #[54] }, type := 34, pos := "law.go:120", after := #[{ on := 5, ground := Go.Ground.data }, { on := 5, ground := Go.Ground.chain }, { on := 2, ground := Go.Ground.guard }], guard := some (2, false) }) rfl (fun K hK => ?_)
  (go_simp; go_at_call 26; refine (HLR.out g7 c7 w7 (hG.below B7) R7 hcc7).mono ?_; rintro e w8 ⟨rfl, b8⟩; have B8 := B7.trans (b8.mono B7.size); have hd38 := (b8.block q3 (Array.getElem?_eq_some_iff.1 hd37).1).trans hd37; have hd68 := (b8.block q5 (Array.getElem?_eq_some_iff.1 hd67).1).trans hd67)
  try go_wp2_with fail
  refine hK.out _ _ ?_ (fun hHeld => ?_)
  · (try dsimp only); exact hd38
  clear hK K
  try simp only [Act.put, List.setIfInBounds_toArray, List.set_cons_zero, List.set_cons_succ]
  first | (refine wpL_calm (o := { dst := some 31, op := Go.Op.binOp Go.BinOp.neq 34 (Go.Operand.tmp 27) (Go.Operand.tmp 30) 34, type := 4, pos := "law.go:120", after := #[{ on := 3, ground := Go.Ground.data }, { on := 6, ground := Go.Ground.data }, { on := 2, ground := Go.Ground.guard }], guard := some (2, false) }) (v := ?_) rfl (Or.inl ⟨by rfl, ?_⟩) ?_; rotate_left; (focus (intro w hSw; (try dsimp only at hSw); go_simp; (try (with_reducible rfl)); done)); try simp only [Act.put, List.setIfInBounds_toArray, List.set_cons_zero, List.set_cons_succ]) | (refine wpL_calm (o := { dst := some 31, op := Go.Op.binOp Go.BinOp.neq 34 (Go.Operand.tmp 27) (Go.Operand.tmp 30) 34, type := 4, pos := "law.go:120", after := #[{ on := 3, ground := Go.Ground.data }, { on := 6, ground := Go.Ground.data }, { on := 2, ground := Go.Ground.guard }], guard := some (2, false) }) (v := undef) rfl (Or.inr ⟨by rfl, rfl⟩) ?_; try simp only [Act.put, List.setIfInBounds_toArray, List.set_cons_zero, List.set_cons_succ])
  (refine wpL_calm (o := { dst := some 32, op := Go.Op.pick (Go.Operand.tmp 26) (Go.Operand.const (Go.Value.bool true)) (Go.Operand.tmp 31), type := 4, pos := "law.go:120", after := #[{ on := 2, ground := Go.Ground.data }, { on := 7, ground := Go.Ground.data }], guard := none }) (v := ?_) rfl (Or.inl ⟨by rfl, ?_⟩) ?_; rotate_left; (focus (intro w hSw; (try dsimp only at hSw); go_simp; (try (with_reducible rfl)); done)); try simp only [Act.put, List.setIfInBounds_toArray, List.set_cons_zero, List.set_cons_succ])
  refine wpL_nil ?_
  refine NoPanic.normal ?_
  go_wp2_with fail
  refine (awake17 _ (hG.below B8)).mono ?_
  rintro e w9 ⟨rfl, b9⟩
  have p1 := HLD1.out w9 q3 ((b9.block q3 (Array.getElem?_eq_some_iff.1 hd38).1).trans hd38)
  have p2 := HLD3.out w9 q5 ((b9.block q5 (Array.getElem?_eq_some_iff.1 hd68).1).trans hd68)
  go_wp2_with (first | ((with_reducible refine wpList_load_arr_i (g := q3) (cs := D1) 34 _ rfl ?_ ?_ ?_); exact ⟨rfl, rfl⟩; assumption) | ((with_reducible refine wpList_load_arr_i (g := q5) (cs := D3) 34 _ rfl ?_ ?_ ?_); exact ⟨rfl, rfl⟩; assumption))
  go_ret
  exact ⟨rfl, B8.trans (b9.mono B8.size)⟩
set_option maxRecDepth 100000 in
set_option maxHeartbeats 8000000 in
theorem nodeRoots_ne (X : List (List UInt8)) (la : Option Addr) (n c : Nat) (w : World) (hG : Gl w) (hn : X.length = n) (hnm : n ≤ 70) (h64 : n ≠ 64) (hX3 : ∀ x ∈ X, x.length = 32) (hTX : DigAt w la X) :
    Calls Tryd.prog 7 #[.slice la n c] w fun e w' => e = .returned (.bool true) ∧ Below w.heap.size w w' := by
  have hz := zero_dig
  have hgf := hG.sf
  have hgk := hG.sk
  have HSX : Hid (∀ w', Below w.heap.size w w' → Calls Tryd.prog 25 #[.slice la n c] w' fun e w'' => ∃ g c', e = .returned (.slice (some ⟨g, 0, none⟩) 64 c') ∧ RowD w'' g c' 64 (dg (sumsL X)) ∧ w'.heap.size ≤ g ∧ Below w'.heap.size w' w'' ∧ c' ≤ 9223372036854775807) := Lib.hid (fun w' hb => sums_anyc X la n c w' (hG.below hb) hn (by omega) hX3 (hTX.below hb))
  have HL1 := Lib.hid (sumsL_len X)
  have H31 := Lib.hid (sumsL_32 X hX3)
  have HRF := Lib.hid (fun o w => root_form o la n c w (by omega))
  have t1 : ¬ (70 : Int) < (n : Int) := by omega
  have t2 : ((n : Int) != 64) = true := by rw [bne_iff_ne]; omega
  have HR1 := Lib.hid (rootD_len (sumsL X) H31.out 6 HL1.out)
  have HRT : Hid (∀ (o : Option Addr) (Z : Option OrS) (g c0 : Nat) (w' : World), Gl w' → OrX w.heap.size w' o Z → FewX Z 1000 → RowD w' g c0 64 (dg (sumsL X)) → Calls Tryd.prog 24 #[.pointer o, .slice (some ⟨g, 0, none⟩) 64 c0] w' fun e w'' => ∃ Z', e = .returned (.tuple #[.agg (digA (rootD 6 (sumsL X))), .int .i64 0]) ∧ OrX w.heap.size w'' o Z' ∧ SumsX Z Z' (txs (sumsL X) 6 0) ∧ Below w.heap.size w' w'' ∧ KeptX w' w'' Z Z') := Lib.hid (fun o Z g c0 w' h1 h2 h3 h4 => root_x w.heap.size o Z (sumsL X) (some ⟨g, 0, none⟩) c0 w' h1 hgf hgk h2 h3 HL1.out H31.out (h4.digAt HL1.out))
  have HLR : Hid (∀ (g c0 : Nat) (w' : World), Gl w' → RowD w' g c0 64 (dg (sumsL X)) → c0 ≤ 9223372036854775807 → Calls Tryd.prog 26 #[.slice (some ⟨g, 0, none⟩) 64 c0] w' fun e w'' => e = .returned (.agg (digA (rootD 6 (sumsL X)))) ∧ Below w'.heap.size w' w'') := Lib.hid (fun g c0 w' h1 h2 h3 => lawRoot_any 6 (Nat.le_refl _) (sumsL X) g 0 c0 w' h1 HL1.out H31.out (fun i hi => by have := h2.range i (by have := HL1.out; omega); rw [Nat.zero_add]; rw [dg_at (sumsL X) i hi] at this; exact this) h2.lt (by obtain ⟨_, _, _, q, _⟩ := h2.ex; exact q) h3)
  have z1 : (digA (rootD 6 (sumsL X))).size = 32 := by with_unfolding_all (rw [digA_size, HR1.out])
  have o1 : (digA (rootD 6 (sumsL X))).all (·.oneCell') = true := by with_unfolding_all exact digA_one _
  have HNEQ := Lib.hid (neq_dig2 (rootD 6 (sumsL X)) (rootD 6 (sumsL X)) HR1.out HR1.out)
  have HEQL := Lib.hid (eql_dig2 (rootD 6 (sumsL X)) (rootD 6 (sumsL X)) HR1.out HR1.out)
  simp only [beq_self_eq_true, Bool.not_true] at HNEQ HEQL
  have HLD1 : Hid (∀ w' g, w'.heap[g]? = some (.cells (digA (rootD 6 (sumsL X))) 34 (0, 0)) → LoadedA Tryd.prog 34 w' g (digA (rootD 6 (sumsL X)))) := Lib.hid (fun w' g h => loadedA_d HR1.out h)
  have HBD : Hid ((bv (rootD 6 (sumsL X))).toArray = digA (rootD 6 (sumsL X))) := Lib.hid (by with_unfolding_all rfl)
  have HBL : Hid ((bv (rootD 6 (sumsL X))).length = 32) := Lib.hid ((bv_len _).trans HR1.out)
  clear HL1 H31 HR1 hX3 hTX hn
  generalize bv (rootD 6 (sumsL X)) = BVr at *
  generalize digA (rootD 6 (sumsL X)) = D1 at *
  obtain ⟨D2, HD2⟩ : ∃ D2, Hid (D1 = D2) := ⟨_, Lib.hid rfl⟩
  have hneq : ∀ w, (binOp .neq 34 (.agg D1) (.agg D2)).run Tryd.prog w = .ok (.bool false) w := by
    obtain rfl := HD2.out
    exact HNEQ.out
  rw [HD2.out] at HLR
  clear HD2 HNEQ
  go_enter Tryd.func7, Tryd.ntmps7
  go_wp2_with fail
  refine (HSX.out w (Below.refl _ _)).mono ?_
  rintro e w1 ⟨g1, c1, rfl, R1, hg1, B1, hcc1⟩
  have hX1 : OrX w.heap.size w1 none none := by with_unfolding_all exact B1.size
  go_wp2_with fail
  refine (HRT.out none none g1 c1 w1 (hG.below B1) hX1 (FewX.none _) R1).mono ?_
  rintro e w2 ⟨X2, rfl, hX2, hS2, b2, K2⟩
  have B2 := B1.trans b2
  clear hX1 b2 B1 hS2 hX2 R1 hg1 hcc1 K2 HRT
  obtain ⟨w3, HW3, hd3, b3⟩ := stored_dg w2 D1
  go_upto_region 4 with (refine wpList_store_row rfl _ _ _ rfl w2.heap.size D1 rfl rfl 34 _ (heap_alloc_new _ _) (by rw [z1]; kernel_rfl) (by rw [z1, z32_size']) o1 ?_)
  rw [HW3.out]
  clear HW3
  have B3 := B2.trans (b3.mono B2.size)
  have hl3 := (Array.getElem?_eq_some_iff.1 hd3).1
  have hw3 : w.heap.size ≤ w2.heap.size := B2.size
  clear b3 B2
  generalize w2.heap.size = q3 at *
  go_wp2_with fail
  refine (new_x w.heap.size w3 B3.size).mono ?_
  rintro e w4 ⟨rfl, hX4, b4⟩
  have few4 : FewX (some ⟨w3.heap.size + 1, [], .slice none 0 0, .slice none 0 0, w3.heap.size, .map []⟩) 1000 := (FewX.zero w3 _ _ _ _ _).mono (by omega)
  have hf4 : FreeX (some ⟨w3.heap.size + 1, [], .slice none 0 0, .slice none 0 0, w3.heap.size, .map []⟩) q3 := fun S e => by
    cases e
    exact ⟨by simp only; omega, by simp only; omega, by simp [Value.ownBlock], by simp [Value.ownBlock]⟩
  generalize (some ⟨w3.heap.size + 1, [], .slice none 0 0, .slice none 0 0, w3.heap.size, .map []⟩ : Option OrS) = X4 at *
  have hd4 := (b4.block q3 hl3).trans hd3
  have B4 := B3.trans (b4.mono B3.size)
  clear b4 hd3 hl3 B3
  go_wp2_with fail
  refine (HRF.out _ w4).mono ?_
  rintro e w5 ⟨rfl, b5⟩
  have hd5 := (b5.block q3 (Array.getElem?_eq_some_iff.1 hd4).1).trans hd4
  have B5 := B4.trans (b5.mono B4.size)
  clear b5 hd4 B4 hf4 few4 hX4 HRF
  obtain ⟨w6, HW6, hd6, b6⟩ := stored_dg w5 z32
  go_upto_region 5 with (refine wpList_store_row rfl _ _ _ rfl w5.heap.size z32 rfl rfl 34 _ (heap_alloc_new _ _) (by rw [z32_size']; kernel_rfl) (by rw [z32_size']) (by with_unfolding_all exact z32_one) ?_)
  rw [HW6.out]
  clear HW6
  have hd36 := (b6.block q3 (Array.getElem?_eq_some_iff.1 hd5).1).trans hd5
  have B6 := B5.trans (b6.mono B5.size)
  have hl6 := (Array.getElem?_eq_some_iff.1 hd6).1
  have hl36 := (Array.getElem?_eq_some_iff.1 hd36).1
  clear b6 hd5 B5
  generalize w5.heap.size = q5 at *
  have heql := HEQL.out
  refine wp_region_lin (S := (fun w' => w'.heap[q3]? = some (.cells D1 34 (0, 0)))) [(0, true), (1, true), (2, true), (3, true), (4, true), (5, false), (6, false), (7, true), (8, true)] (by kernel_rfl) (by kernel_rfl) rfl (by kernel_rfl) ?_ (fun hHeld => ?_)
  · (try dsimp only); exact hd36
  (refine wpL_calm (o := { dst := some 24, op := Go.Op.move (Go.Operand.tmp 4), type := 30, pos := "law.go:120", after := #[], guard := none }) (v := ?_) rfl (Or.inl ⟨by rfl, ?_⟩) ?_; rotate_left; (focus (intro w hSw; (try dsimp only at hSw); go_simp; (try (with_reducible rfl)); done)); try simp only [Act.put, List.setIfInBounds_toArray, List.set_cons_zero, List.set_cons_succ])
  (refine wpL_calm (o := { dst := some 25, op := Go.Op.binOp Go.BinOp.neq 30 (Go.Operand.tmp 24) (Go.Operand.const (Go.Value.int Go.IntKind.i64 0)) 30, type := 4, pos := "law.go:120", after := #[{ on := 0, ground := Go.Ground.data }], guard := none }) (v := ?_) rfl (Or.inl ⟨by rfl, ?_⟩) ?_; rotate_left; (focus (intro w hSw; (try dsimp only at hSw); go_simp; (try (with_reducible rfl)); done)); try simp only [Act.put, List.setIfInBounds_toArray, List.set_cons_zero, List.set_cons_succ])
  (refine wpL_calm (o := { dst := some 26, op := Go.Op.move (Go.Operand.tmp 25), type := 4, pos := "law.go:120", after := #[{ on := 1, ground := Go.Ground.data }], guard := none }) (v := ?_) rfl (Or.inl ⟨by rfl, ?_⟩) ?_; rotate_left; (focus (intro w hSw; (try dsimp only at hSw); go_simp; (try (with_reducible rfl)); done)); try simp only [Act.put, List.setIfInBounds_toArray, List.set_cons_zero, List.set_cons_succ])
  refine wpL_calm (o := { dst := some 27, op := Go.Op.load 34 (Go.Operand.tmp 3), type := 34, pos := "law.go:120", after := #[{ on := 2, ground := Go.Ground.guard }], guard := some (2, false) }) rfl (yieldsIf_load_mid (by rfl) _ _ rfl q3 0 rfl BVr _ (fun _ h => range_dg h HBD.out) Tryd.underlying34 rfl (by rw [HBL.out]; kernel_rfl)) ?_; rw [HBD.out]
  try simp only [Act.put, List.setIfInBounds_toArray, List.set_cons_zero, List.set_cons_succ]
  first | (refine wpL_calm (o := { dst := some 28, op := Go.Op.move (Go.Operand.tmp 0), type := 54, pos := "law.go:120", after := #[{ on := 2, ground := Go.Ground.guard }], guard := some (2, false) }) (v := ?_) rfl (Or.inl ⟨by rfl, ?_⟩) ?_; rotate_left; (focus (intro w hSw; (try dsimp only at hSw); go_simp; (try (with_reducible rfl)); done)); try simp only [Act.put, List.setIfInBounds_toArray, List.set_cons_zero, List.set_cons_succ]) | (refine wpL_calm (o := { dst := some 28, op := Go.Op.move (Go.Operand.tmp 0), type := 54, pos := "law.go:120", after := #[{ on := 2, ground := Go.Ground.guard }], guard := some (2, false) }) (v := undef) rfl (Or.inr ⟨by rfl, rfl⟩) ?_; try simp only [Act.put, List.setIfInBounds_toArray, List.set_cons_zero, List.set_cons_succ])
  refine wpL_loud1 (o := { dst := some 29, op := Go.Op.call { callee := Go.Callee.value (Go.Operand.func 25), args := #[Go.Operand.tmp 28], argTypes := #[54] }, type := 54, pos := "law.go:120", after := #[{ on := 4, ground := Go.Ground.data }, { on := 2, ground := Go.Ground.chain }, { on := 2, ground := Go.Ground.guard }], guard := some (2, false) }) rfl (fun K hK => ?_)
  (go_simp; go_at_call 25; refine (HSX.out _ B6.drew).mono ?_; rintro e w7 ⟨g7, c7, rfl, R7, hg7, b7, hcc7⟩; have B7 := B6.drew.trans (b7.mono B6.size); have hd37 := (b7.block q3 hl36).trans (show w6.drew.heap[q3]? = _ from hd36); have hd67 := (b7.block q5 hl6).trans (show w6.drew.heap[q5]? = _ from hd6))
  try go_wp2_with fail
  refine hK.out _ _ ?_ (fun hHeld => ?_)
  · (try dsimp only); exact hd37
  clear hK K
  try simp only [Act.put, List.setIfInBounds_toArray, List.set_cons_zero, List.set_cons_succ]
  refine wpL_loud1 (o := { dst := some 30, op := Go.Op.call { callee := Go.Callee.value (Go.Operand.func 26), args := #[Go.Operand.tmp 29], argTypes := #[54] }, type := 34, pos := "law.go:120", after := #[{ on := 5, ground := Go.Ground.data }, { on := 5, ground := Go.Ground.chain }, { on := 2, ground := Go.Ground.guard }], guard := some (2, false) }) rfl (fun K hK => ?_)
  (go_simp; go_at_call 26; refine (HLR.out g7 c7 w7 (hG.below B7) R7 hcc7).mono ?_; rintro e w8 ⟨rfl, b8⟩; have B8 := B7.trans (b8.mono B7.size); have hd38 := (b8.block q3 (Array.getElem?_eq_some_iff.1 hd37).1).trans hd37; have hd68 := (b8.block q5 (Array.getElem?_eq_some_iff.1 hd67).1).trans hd67)
  try go_wp2_with fail
  refine hK.out _ _ ?_ (fun hHeld => ?_)
  · (try dsimp only); exact hd38
  clear hK K
  try simp only [Act.put, List.setIfInBounds_toArray, List.set_cons_zero, List.set_cons_succ]
  first | (refine wpL_calm (o := { dst := some 31, op := Go.Op.binOp Go.BinOp.neq 34 (Go.Operand.tmp 27) (Go.Operand.tmp 30) 34, type := 4, pos := "law.go:120", after := #[{ on := 3, ground := Go.Ground.data }, { on := 6, ground := Go.Ground.data }, { on := 2, ground := Go.Ground.guard }], guard := some (2, false) }) (v := ?_) rfl (Or.inl ⟨by rfl, ?_⟩) ?_; rotate_left; (focus (intro w hSw; (try dsimp only at hSw); go_simp; (try (with_reducible rfl)); done)); try simp only [Act.put, List.setIfInBounds_toArray, List.set_cons_zero, List.set_cons_succ]) | (refine wpL_calm (o := { dst := some 31, op := Go.Op.binOp Go.BinOp.neq 34 (Go.Operand.tmp 27) (Go.Operand.tmp 30) 34, type := 4, pos := "law.go:120", after := #[{ on := 3, ground := Go.Ground.data }, { on := 6, ground := Go.Ground.data }, { on := 2, ground := Go.Ground.guard }], guard := some (2, false) }) (v := undef) rfl (Or.inr ⟨by rfl, rfl⟩) ?_; try simp only [Act.put, List.setIfInBounds_toArray, List.set_cons_zero, List.set_cons_succ])
  (refine wpL_calm (o := { dst := some 32, op := Go.Op.pick (Go.Operand.tmp 26) (Go.Operand.const (Go.Value.bool true)) (Go.Operand.tmp 31), type := 4, pos := "law.go:120", after := #[{ on := 2, ground := Go.Ground.data }, { on := 7, ground := Go.Ground.data }], guard := none }) (v := ?_) rfl (Or.inl ⟨by rfl, ?_⟩) ?_; rotate_left; (focus (intro w hSw; (try dsimp only at hSw); go_simp; (try (with_reducible rfl)); done)); try simp only [Act.put, List.setIfInBounds_toArray, List.set_cons_zero, List.set_cons_succ])
  refine wpL_nil ?_
  refine NoPanic.normal ?_
  go_wp2_with fail
  refine (awake17 _ (hG.below B8)).mono ?_
  rintro e w9 ⟨rfl, b9⟩
  have p2 := loadedA_z ((b9.block q5 (Array.getElem?_eq_some_iff.1 hd68).1).trans hd68)
  have hbz := build_z32
  have hez := eql_z32
  go_wp2_with ((with_reducible refine wpList_load_arr_i (g := q5) (cs := z32) 34 _ rfl ?_ ?_ ?_); exact ⟨rfl, rfl⟩; assumption)
  go_ret
  exact ⟨rfl, B8.trans (b9.mono B8.size)⟩
set_option maxRecDepth 100000 in
set_option maxHeartbeats 8000000 in
theorem nodeRoots_big (X : List (List UInt8)) (la : Option Addr) (n c : Nat) (w : World) (hG : Gl w) (hn : X.length = 70) (hnm : 70 < n) (hnc : n ≤ c) (hcm : c ≤ 9223372036854775807) (hX3 : ∀ x ∈ X, x.length = 32) (hTX : DigAt w la X) :
    Calls Tryd.prog 7 #[.slice la n c] w fun e w' => e = .returned (.bool true) ∧ Below w.heap.size w w' := by
  have hz := zero_dig
  have hgf := hG.sf
  have hgk := hG.sk
  have HSX : Hid (∀ w', Below w.heap.size w w' → Calls Tryd.prog 25 #[.slice la 70 c] w' fun e w'' => ∃ g c', e = .returned (.slice (some ⟨g, 0, none⟩) 64 c') ∧ RowD w'' g c' 64 (dg (sumsL X)) ∧ w'.heap.size ≤ g ∧ Below w'.heap.size w' w'' ∧ c' ≤ 9223372036854775807) := Lib.hid (fun w' hb => sums_anyc X la 70 c w' (hG.below hb) hn (by omega) hX3 (hTX.below hb))
  have HL1 := Lib.hid (sumsL_len X)
  have H31 := Lib.hid (sumsL_32 X hX3)
  have HRF := Lib.hid (fun o w => root_form o la 70 c w (by omega))
  have t1 : (70 : Int) < (n : Int) := by omega
  have hc70 : 70 ≤ c := by omega
  have hn70 : 70 ≤ n := by omega
  have hc71 : (70 : Int) ≤ (c : Int) := by omega
  have HR1 := Lib.hid (rootD_len (sumsL X) H31.out 6 HL1.out)
  have HRT : Hid (∀ (o : Option Addr) (Z : Option OrS) (g c0 : Nat) (w' : World), Gl w' → OrX w.heap.size w' o Z → FewX Z 1000 → RowD w' g c0 64 (dg (sumsL X)) → Calls Tryd.prog 24 #[.pointer o, .slice (some ⟨g, 0, none⟩) 64 c0] w' fun e w'' => ∃ Z', e = .returned (.tuple #[.agg (digA (rootD 6 (sumsL X))), .int .i64 0]) ∧ OrX w.heap.size w'' o Z' ∧ SumsX Z Z' (txs (sumsL X) 6 0) ∧ Below w.heap.size w' w'' ∧ KeptX w' w'' Z Z') := Lib.hid (fun o Z g c0 w' h1 h2 h3 h4 => root_x w.heap.size o Z (sumsL X) (some ⟨g, 0, none⟩) c0 w' h1 hgf hgk h2 h3 HL1.out H31.out (h4.digAt HL1.out))
  have HLR : Hid (∀ (g c0 : Nat) (w' : World), Gl w' → RowD w' g c0 64 (dg (sumsL X)) → c0 ≤ 9223372036854775807 → Calls Tryd.prog 26 #[.slice (some ⟨g, 0, none⟩) 64 c0] w' fun e w'' => e = .returned (.agg (digA (rootD 6 (sumsL X)))) ∧ Below w'.heap.size w' w'') := Lib.hid (fun g c0 w' h1 h2 h3 => lawRoot_any 6 (Nat.le_refl _) (sumsL X) g 0 c0 w' h1 HL1.out H31.out (fun i hi => by have := h2.range i (by have := HL1.out; omega); rw [Nat.zero_add]; rw [dg_at (sumsL X) i hi] at this; exact this) h2.lt (by obtain ⟨_, _, _, q, _⟩ := h2.ex; exact q) h3)
  have z1 : (digA (rootD 6 (sumsL X))).size = 32 := by with_unfolding_all (rw [digA_size, HR1.out])
  have o1 : (digA (rootD 6 (sumsL X))).all (·.oneCell') = true := by with_unfolding_all exact digA_one _
  have HNEQ := Lib.hid (neq_dig2 (rootD 6 (sumsL X)) (rootD 6 (sumsL X)) HR1.out HR1.out)
  have HEQL := Lib.hid (eql_dig2 (rootD 6 (sumsL X)) (rootD 6 (sumsL X)) HR1.out HR1.out)
  simp only [beq_self_eq_true, Bool.not_true] at HNEQ HEQL
  have HLD1 : Hid (∀ w' g, w'.heap[g]? = some (.cells (digA (rootD 6 (sumsL X))) 34 (0, 0)) → LoadedA Tryd.prog 34 w' g (digA (rootD 6 (sumsL X)))) := Lib.hid (fun w' g h => loadedA_d HR1.out h)
  have HBD : Hid ((bv (rootD 6 (sumsL X))).toArray = digA (rootD 6 (sumsL X))) := Lib.hid (by with_unfolding_all rfl)
  have HBL : Hid ((bv (rootD 6 (sumsL X))).length = 32) := Lib.hid ((bv_len _).trans HR1.out)
  clear HL1 H31 HR1 hX3 hTX hn
  generalize bv (rootD 6 (sumsL X)) = BVr at *
  generalize digA (rootD 6 (sumsL X)) = D1 at *
  obtain ⟨D2, HD2⟩ : ∃ D2, Hid (D1 = D2) := ⟨_, Lib.hid rfl⟩
  have hneq : ∀ w, (binOp .neq 34 (.agg D1) (.agg D2)).run Tryd.prog w = .ok (.bool false) w := by
    obtain rfl := HD2.out
    exact HNEQ.out
  rw [HD2.out] at HLR
  clear HD2 HNEQ
  go_enter Tryd.func7, Tryd.ntmps7
  go_wp2_with fail
  refine (HSX.out w (Below.refl _ _)).mono ?_
  rintro e w1 ⟨g1, c1, rfl, R1, hg1, B1, hcc1⟩
  have hX1 : OrX w.heap.size w1 none none := by with_unfolding_all exact B1.size
  go_wp2_with fail
  refine (HRT.out none none g1 c1 w1 (hG.below B1) hX1 (FewX.none _) R1).mono ?_
  rintro e w2 ⟨X2, rfl, hX2, hS2, b2, K2⟩
  have B2 := B1.trans b2
  clear hX1 b2 B1 hS2 hX2 R1 hg1 hcc1 K2 HRT
  obtain ⟨w3, HW3, hd3, b3⟩ := stored_dg w2 D1
  go_upto_region 4 with (refine wpList_store_row rfl _ _ _ rfl w2.heap.size D1 rfl rfl 34 _ (heap_alloc_new _ _) (by rw [z1]; kernel_rfl) (by rw [z1, z32_size']) o1 ?_)
  rw [HW3.out]
  clear HW3
  have B3 := B2.trans (b3.mono B2.size)
  have hl3 := (Array.getElem?_eq_some_iff.1 hd3).1
  have hw3 : w.heap.size ≤ w2.heap.size := B2.size
  clear b3 B2
  generalize w2.heap.size = q3 at *
  go_wp2_with fail
  refine (new_x w.heap.size w3 B3.size).mono ?_
  rintro e w4 ⟨rfl, hX4, b4⟩
  have few4 : FewX (some ⟨w3.heap.size + 1, [], .slice none 0 0, .slice none 0 0, w3.heap.size, .map []⟩) 1000 := (FewX.zero w3 _ _ _ _ _).mono (by omega)
  have hf4 : FreeX (some ⟨w3.heap.size + 1, [], .slice none 0 0, .slice none 0 0, w3.heap.size, .map []⟩) q3 := fun S e => by
    cases e
    exact ⟨by simp only; omega, by simp only; omega, by simp [Value.ownBlock], by simp [Value.ownBlock]⟩
  generalize (some ⟨w3.heap.size + 1, [], .slice none 0 0, .slice none 0 0, w3.heap.size, .map []⟩ : Option OrS) = X4 at *
  have hd4 := (b4.block q3 hl3).trans hd3
  have B4 := B3.trans (b4.mono B3.size)
  clear b4 hd3 hl3 B3
  go_wp2_with fail
  refine (HRF.out _ w4).mono ?_
  rintro e w5 ⟨rfl, b5⟩
  have hd5 := (b5.block q3 (Array.getElem?_eq_some_iff.1 hd4).1).trans hd4
  have B5 := B4.trans (b5.mono B4.size)
  clear b5 hd4 B4 hf4 few4 hX4 HRF
  obtain ⟨w6, HW6, hd6, b6⟩ := stored_dg w5 z32
  go_upto_region 5 with (refine wpList_store_row rfl _ _ _ rfl w5.heap.size z32 rfl rfl 34 _ (heap_alloc_new _ _) (by rw [z32_size']; kernel_rfl) (by rw [z32_size']) (by with_unfolding_all exact z32_one) ?_)
  rw [HW6.out]
  clear HW6
  have hd36 := (b6.block q3 (Array.getElem?_eq_some_iff.1 hd5).1).trans hd5
  have B6 := B5.trans (b6.mono B5.size)
  have hl6 := (Array.getElem?_eq_some_iff.1 hd6).1
  have hl36 := (Array.getElem?_eq_some_iff.1 hd36).1
  clear b6 hd5 B5
  generalize w5.heap.size = q5 at *
  have heql := HEQL.out
  refine wp_region_lin (S := (fun w' => w'.heap[q3]? = some (.cells D1 34 (0, 0)))) [(0, true), (1, true), (2, true), (3, true), (4, true), (5, false), (6, false), (7, true), (8, true)] (by kernel_rfl) (by kernel_rfl) rfl (by kernel_rfl) ?_ (fun hHeld => ?_)
  · (try dsimp only); exact hd36
  (refine wpL_calm (o := { dst := some 24, op := Go.Op.move (Go.Operand.tmp 4), type := 30, pos := "law.go:120", after := #[], guard := none }) (v := ?_) rfl (Or.inl ⟨by rfl, ?_⟩) ?_; rotate_left; (focus (intro w hSw; (try dsimp only at hSw); go_simp; (try (with_reducible rfl)); done)); try simp only [Act.put, List.setIfInBounds_toArray, List.set_cons_zero, List.set_cons_succ])
  (refine wpL_calm (o := { dst := some 25, op := Go.Op.binOp Go.BinOp.neq 30 (Go.Operand.tmp 24) (Go.Operand.const (Go.Value.int Go.IntKind.i64 0)) 30, type := 4, pos := "law.go:120", after := #[{ on := 0, ground := Go.Ground.data }], guard := none }) (v := ?_) rfl (Or.inl ⟨by rfl, ?_⟩) ?_; rotate_left; (focus (intro w hSw; (try dsimp only at hSw); go_simp; (try (with_reducible rfl)); done)); try simp only [Act.put, List.setIfInBounds_toArray, List.set_cons_zero, List.set_cons_succ])
  (refine wpL_calm (o := { dst := some 26, op := Go.Op.move (Go.Operand.tmp 25), type := 4, pos := "law.go:120", after := #[{ on := 1, ground := Go.Ground.data }], guard := none }) (v := ?_) rfl (Or.inl ⟨by rfl, ?_⟩) ?_; rotate_left; (focus (intro w hSw; (try dsimp only at hSw); go_simp; (try (with_reducible rfl)); done)); try simp only [Act.put, List.setIfInBounds_toArray, List.set_cons_zero, List.set_cons_succ])
  refine wpL_calm (o := { dst := some 27, op := Go.Op.load 34 (Go.Operand.tmp 3), type := 34, pos := "law.go:120", after := #[{ on := 2, ground := Go.Ground.guard }], guard := some (2, false) }) rfl (yieldsIf_load_mid (by rfl) _ _ rfl q3 0 rfl BVr _ (fun _ h => range_dg h HBD.out) Tryd.underlying34 rfl (by rw [HBL.out]; kernel_rfl)) ?_; rw [HBD.out]
  try simp only [Act.put, List.setIfInBounds_toArray, List.set_cons_zero, List.set_cons_succ]
  first | (refine wpL_calm (o := { dst := some 28, op := Go.Op.move (Go.Operand.tmp 0), type := 54, pos := "law.go:120", after := #[{ on := 2, ground := Go.Ground.guard }], guard := some (2, false) }) (v := ?_) rfl (Or.inl ⟨by rfl, ?_⟩) ?_; rotate_left; (focus (intro w hSw; (try dsimp only at hSw); go_simp; (try (with_reducible rfl)); done)); try simp only [Act.put, List.setIfInBounds_toArray, List.set_cons_zero, List.set_cons_succ]) | (refine wpL_calm (o := { dst := some 28, op := Go.Op.move (Go.Operand.tmp 0), type := 54, pos := "law.go:120", after := #[{ on := 2, ground := Go.Ground.guard }], guard := some (2, false) }) (v := undef) rfl (Or.inr ⟨by rfl, rfl⟩) ?_; try simp only [Act.put, List.setIfInBounds_toArray, List.set_cons_zero, List.set_cons_succ])
  refine wpL_loud1 (o := { dst := some 29, op := Go.Op.call { callee := Go.Callee.value (Go.Operand.func 25), args := #[Go.Operand.tmp 28], argTypes := #[54] }, type := 54, pos := "law.go:120", after := #[{ on := 4, ground := Go.Ground.data }, { on := 2, ground := Go.Ground.chain }, { on := 2, ground := Go.Ground.guard }], guard := some (2, false) }) rfl (fun K hK => ?_)
  (go_simp; go_at_call 25; refine (HSX.out _ B6.drew).mono ?_; rintro e w7 ⟨g7, c7, rfl, R7, hg7, b7, hcc7⟩; have B7 := B6.drew.trans (b7.mono B6.size); have hd37 := (b7.block q3 hl36).trans (show w6.drew.heap[q3]? = _ from hd36); have hd67 := (b7.block q5 hl6).trans (show w6.drew.heap[q5]? = _ from hd6))
  try go_wp2_with fail
  refine hK.out _ _ ?_ (fun hHeld => ?_)
  · (try dsimp only); exact hd37
  clear hK K
  try simp only [Act.put, List.setIfInBounds_toArray, List.set_cons_zero, List.set_cons_succ]
  refine wpL_loud1 (o := { dst := some 30, op := Go.Op.call { callee := Go.Callee.value (Go.Operand.func 26), args := #[Go.Operand.tmp 29], argTypes := #[54] }, type := 34, pos := "law.go:120", after := #[{ on := 5, ground := Go.Ground.data }, { on := 5, ground := Go.Ground.chain }, { on := 2, ground := Go.Ground.guard }], guard := some (2, false) }) rfl (fun K hK => ?_)
  (go_simp; go_at_call 26; refine (HLR.out g7 c7 w7 (hG.below B7) R7 hcc7).mono ?_; rintro e w8 ⟨rfl, b8⟩; have B8 := B7.trans (b8.mono B7.size); have hd38 := (b8.block q3 (Array.getElem?_eq_some_iff.1 hd37).1).trans hd37; have hd68 := (b8.block q5 (Array.getElem?_eq_some_iff.1 hd67).1).trans hd67)
  try go_wp2_with fail
  refine hK.out _ _ ?_ (fun hHeld => ?_)
  · (try dsimp only); exact hd38
  clear hK K
  try simp only [Act.put, List.setIfInBounds_toArray, List.set_cons_zero, List.set_cons_succ]
  first | (refine wpL_calm (o := { dst := some 31, op := Go.Op.binOp Go.BinOp.neq 34 (Go.Operand.tmp 27) (Go.Operand.tmp 30) 34, type := 4, pos := "law.go:120", after := #[{ on := 3, ground := Go.Ground.data }, { on := 6, ground := Go.Ground.data }, { on := 2, ground := Go.Ground.guard }], guard := some (2, false) }) (v := ?_) rfl (Or.inl ⟨by rfl, ?_⟩) ?_; rotate_left; (focus (intro w hSw; (try dsimp only at hSw); go_simp; (try (with_reducible rfl)); done)); try simp only [Act.put, List.setIfInBounds_toArray, List.set_cons_zero, List.set_cons_succ]) | (refine wpL_calm (o := { dst := some 31, op := Go.Op.binOp Go.BinOp.neq 34 (Go.Operand.tmp 27) (Go.Operand.tmp 30) 34, type := 4, pos := "law.go:120", after := #[{ on := 3, ground := Go.Ground.data }, { on := 6, ground := Go.Ground.data }, { on := 2, ground := Go.Ground.guard }], guard := some (2, false) }) (v := undef) rfl (Or.inr ⟨by rfl, rfl⟩) ?_; try simp only [Act.put, List.setIfInBounds_toArray, List.set_cons_zero, List.set_cons_succ])
  (refine wpL_calm (o := { dst := some 32, op := Go.Op.pick (Go.Operand.tmp 26) (Go.Operand.const (Go.Value.bool true)) (Go.Operand.tmp 31), type := 4, pos := "law.go:120", after := #[{ on := 2, ground := Go.Ground.data }, { on := 7, ground := Go.Ground.data }], guard := none }) (v := ?_) rfl (Or.inl ⟨by rfl, ?_⟩) ?_; rotate_left; (focus (intro w hSw; (try dsimp only at hSw); go_simp; (try (with_reducible rfl)); done)); try simp only [Act.put, List.setIfInBounds_toArray, List.set_cons_zero, List.set_cons_succ])
  refine wpL_nil ?_
  refine NoPanic.normal ?_
  go_wp2_with fail
  refine (awake17 _ (hG.below B8)).mono ?_
  rintro e w9 ⟨rfl, b9⟩
  have p2 := loadedA_z ((b9.block q5 (Array.getElem?_eq_some_iff.1 hd68).1).trans hd68)
  have hbz := build_z32
  have hez := eql_z32
  go_wp2_with ((with_reducible refine wpList_load_arr_i (g := q5) (cs := z32) 34 _ rfl ?_ ?_ ?_); exact ⟨rfl, rfl⟩; assumption)
  go_ret
  exact ⟨rfl, B8.trans (b9.mono B8.size)⟩
section
variable {H : Type} {enc : TypeId × Value → H}
theorem nodeRoots_walk (v0 : Value) (d0 : DataW H) (p0 : List MemPlace) (w : World) (hok0 : ∃ a len cap, v0 = .slice a len cap) (h0 : DataW.Trod enc Tryd.prog w 0 (fun _ => true) true 54 v0 d0 p0) (hG : Gl w) :
    Calls Tryd.prog 7 #[v0] w fun e w' => e = .returned (.bool true) ∧ Below w.heap.size w w' := by
  obtain ⟨a0, n0, c0, rfl⟩ := hok0
  have hcp := slice_cap2 Tryd.underlying54 h0
  obtain ⟨la, n, c, X, hv, hn, hXl, hX3, hTX⟩ := open_digs ⟨_, _, _, rfl⟩ h0
  cases hv
  unfold maxLen at hn hcp
  by_cases hb : 70 < n0
  · exact nodeRoots_big (X.take 70) a0 n0 c0 w hG (by rw [List.length_take]; omega) hb hcp.1 (by omega) (fun x hx => hX3 x (List.mem_of_mem_take hx)) (hTX.take 70)
  · by_cases h64 : n0 = 64
    · subst h64
      exact nodeRoots_64 X a0 c0 w hG hXl hX3 hTX
    · exact nodeRoots_ne X a0 n0 c0 w hG hXl (by omega) h64 hX3 hTX
end
end Go.Proofs.YtaneecmfgfkaaaaDoor
