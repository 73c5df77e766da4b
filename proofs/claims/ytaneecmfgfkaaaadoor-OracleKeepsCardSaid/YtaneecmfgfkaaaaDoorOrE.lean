/- The oracle: Sum of a text that is not kept yet, walked. -/
import Derived.Test.YtaneecmfgfkaaaaDoorOrD
import Derived.OneCell
namespace Go.Proofs.YtaneecmfgfkaaaaDoor
open Go.RowKit Go.Deep Go.Maps
set_option linter.unusedVariables false
set_option linter.unusedSimpArgs false
theorem nat_wf (n : Nat) (h : n ≤ 1000000) : (Lit.int .i64 (n : Int)).wf = true := by
  have h1 : IntKind.i64.min ≤ (n : Int) ∧ (n : Int) ≤ IntKind.i64.max := by
    rw [show IntKind.i64.min = -9223372036854775808 from by decide, show IntKind.i64.max = 9223372036854775807 from by decide]
    omega
  simpa [Lit.wf] using h1
/-- A block that is not a grown row's own stays. -/
theorem app_block {w w' : World} {o : Obj} {v : Value} {g : Nat} {x : Obj} (hG : (w.alloc o).grownBy w' v.ownBlock) (hg : w.heap[g]? = some x) (hne : v.ownBlock ≠ some g) : w'.heap[g]? = some x := by
  have hlt := (Array.getElem?_eq_some_iff.1 hg).1
  exact (hG.block g (by simp; omega) (fun e => hne e.symm)).trans ((Below.heap_alloc w o g hlt).trans hg)
theorem own_at_ne {w : World} {base n size : Nat} {e : TypeId} {v : Value} {xs : List Value} (h : w.ownsRow base e size v n xs) {q : Nat} (hq : w.heap.size ≤ q) : v.ownBlock ≠ some q := fun e1 => by
  have := (h.lt q e1).2
  omega
theorem or_set {w : World} {g : Nat} {a b c v : Value} {T : TypeId} (h : w.heap[g]? = some (.cells #[a, b, c] T (0, 0))) : (w.setCell ⟨g, 0, none⟩ v).heap[g]? = some (.cells #[v, b, c] T (0, 0)) := heap_setCell_same w g 0 _ T v h
theorem or_set1 {w : World} {g : Nat} {a b c v : Value} {T : TypeId} (h : w.heap[g]? = some (.cells #[a, b, c] T (0, 0))) : (w.setCell ⟨g, 1, none⟩ v).heap[g]? = some (.cells #[a, v, c] T (0, 0)) := heap_setCell_same w g 1 _ T v h
theorem map_app (l : List (List UInt8)) (s : ByteArray) : ((l ++ [s.data.toList]).map fun x => Value.string ⟨x.toArray⟩) = (l.map fun x => Value.string ⟨x.toArray⟩) ++ [.string s] := by rw [List.map_append, bytes_ba s]; rfl
theorem flat_app (l : List (List UInt8)) (s : ByteArray) : ((l ++ [s.data.toList]).flatMap fun x => bv (sumL x)) = (l.flatMap fun x => bv (sumL x)) ++ bv (sumL s.data.toList) := by rw [List.flatMap_append]; simp
theorem own_at_block {w w' : World} {base n size : Nat} {e : TypeId} {v : Value} {xs : List Value} (h : w.ownsRow base e size v n xs) (hb : ∀ k, v.ownBlock = some k → w'.heap[k]? = w.heap[k]?) : w'.ownsRow base e size v n xs := by
  refine ⟨h.1, ?_⟩
  rcases h.2 with h2 | ⟨g2, cap, cur, rfl, q1, q2, q3⟩
  · exact Or.inl h2
  · exact Or.inr ⟨g2, cap, cur, rfl, q1, (hb g2 rfl).trans q2, q3⟩
theorem keep_alloc {w : World} {g q i : Nat} {v : Value} {BV : List Value} (o : Obj) (h1 : w.cell? ⟨g, i, none⟩ = some v) (h2 : w.rangeAt q 0 BV) (hg : g < w.heap.size) (hq : q < w.heap.size) : (w.alloc o).cell? ⟨g, i, none⟩ = some v ∧ (w.alloc o).rangeAt q 0 BV :=
  have b := (Below.refl w.heap.size w).alloc (Nat.le_refl _) o
  ⟨(b.cell (p := ⟨g, i, none⟩) hg).trans h1, fun j u hu => (b.cell (p := ⟨q, 0 + j, none⟩) hq).trans (h2 j u hu)⟩
theorem range_dg {w : World} {q : Nat} {T : TypeId} {DG : Array Value} {BV : List Value} (h : w.heap[q]? = some (.cells DG T (0, 0))) (e : BV.toArray = DG) : w.rangeAt q 0 BV := fun j u hu => by
  rw [Nat.zero_add, cell_of_row w q j _ _ _ h, ← e, List.getElem?_toArray]
  exact hu
theorem str_ne_dig : (9 : TypeId) ≠ 34 := by decide
theorem str_ne_or : (9 : TypeId) ≠ 70 := by decide
theorem dig_ne_or : (34 : TypeId) ≠ 70 := by decide
set_option maxRecDepth 100000 in
set_option maxHeartbeats 4000000 in
theorem orSum_new (base g : Nat) (l : List (List UInt8)) (tv sv : Value) (b : Nat) (D : DataW Unit) (s : ByteArray) (w : World) (hG : Gl w) (hbf : 0 < base) (hbk : 1 < base) (hP : OrP base w g l tv sv b D) (hs : s.size ≤ 1125899906842000) (hin : s.data.toList ∉ l) (hl : l.length ≤ 1000000) :
    Calls Tryd.prog 13 #[.pointer (some ⟨g, 0, none⟩), .string s] w fun e w' => ∃ tv' sv' D', e = .returned (.agg (digA (sumL s.data.toList))) ∧ OrP base w' g (l ++ [s.data.toList]) tv' sv' b D' ∧ Below base w w' := by
  have hz := zero_dig
  obtain ⟨is_, hsi, hsz0, hsz1, hsz2⟩ := info_parts' info_str'
  obtain ⟨id_, hdi, hdz0, hdz1, hdz2⟩ := info_parts' info_dig'
  have hbw : base ≤ w.heap.size := Nat.le_trans hP.hb (Nat.le_of_lt (Array.getElem?_eq_some_iff.1 hP.hg).1)
  obtain ⟨w1, HW1, hr1, B1⟩ : ∃ w1, Hid (w.alloc (.cells z32 34) = w1) ∧ w1.heap[w.heap.size]? = some (.cells z32 34 (0, 0)) ∧ Below w.heap.size w w1 := ⟨_, Lib.hid rfl, heap_alloc_new _ _, (Below.refl _ _).alloc (Nat.le_refl _) _⟩
  have P1 := hP.below B1
  have G1 := hG.below B1
  have HS := Lib.hid (fun w hw => sum_any s w hs hw)
  have HKEY : Hid (keyOf Tryd.prog 9 (.string s) = some (kS s.data.toList)) := Lib.hid (Go.WideMaps.keyOf_string_mk Tryd.underlying9 (by unfold maxLen; omega))
  have HHAS : Hid (has D (kS s.data.toList) = false) := Lib.hid (by rw [(hP.ix s.data.toList).1]; exact decide_eq_false hin)
  have HWF := Lib.hid (nat_wf l.length hl)
  have HIXP := Lib.hid ((hP.ix).put hP.hm.isMap s.data.toList hin)
  have HND : Hid ((l ++ [s.data.toList]).Nodup) := Lib.hid (List.nodup_append.2 ⟨hP.nd, by simp, fun a ha b hb => by rw [List.mem_singleton.1 hb]; exact fun e => hin (e ▸ ha)⟩)
  have HMA := Lib.hid (map_app l s)
  have HFA := Lib.hid (flat_app l s)
  have HLA : Hid ((l ++ [s.data.toList]).length = l.length + 1) := Lib.hid (by simp)
  have htq : ∀ q, w.heap.size ≤ q → tv.ownBlock ≠ some q := fun q hq => own_at_ne hP.ht hq
  have hsq : ∀ q, w.heap.size ≤ q → sv.ownBlock ≠ some q := fun q hq => own_at_ne hP.hs hq
  have HTQ := Lib.hid htq
  have HSQ := Lib.hid hsq
  have HTS := Lib.hid (own_apart hP.hs hP.ht (fun e => str_ne_dig e.symm))
  have hbb := hP.hbb
  have hbg := hP.hb
  have HDL := Lib.hid (dig_len s.data.toList)
  obtain ⟨hsz, hone⟩ := dig_ok' s.data.toList
  have HDG : Hid ((bv (sumL s.data.toList)).toArray = digA (sumL s.data.toList)) := Lib.hid rfl
  have hsm1 := P1.hm
  have hc2 := cell_of_row w1 g 2 _ _ _ P1.hg
  have HP1 := Lib.hid P1
  clear htq hsq hin hP P1 hG
  generalize bv (sumL s.data.toList) = BV at *
  generalize digA (sumL s.data.toList) = DG at *
  have hsl : s.size ≤ 1125899906842000 := hs
  go_enter Tryd.func13, Tryd.ntmps13
  go_upto_region 1 with fail
  rw [HW1.out]
  clear HW1
  go_upto_region 4 with (at_lookup; refine wpList_lookup_own_ok_int _ rfl _ _ 68 rfl 9 3 .i64 lawS Tryd.underlying68 Tryd.underlying3 (zeroI _) b l.length D rfl hsm1 _ (kS s.data.toList) rfl HKEY.out ?_; intro c hat hwc; rw [HHAS.out]; clear hat hwc)
  clear hsm1 hc2
  go_wp2_with fail
  refine (HS.out w1 G1).mono ?_
  rintro e w2 ⟨rfl, b2⟩
  have P2 := HP1.out.below b2
  have B2 := B1.trans (b2.mono B1.size)
  have hq0 : w.heap.size < w1.heap.size := (Array.getElem?_eq_some_iff.1 hr1).1
  have hr2 := (b2.block _ hq0).trans hr1
  have hq2 : w.heap.size < w2.heap.size := Nat.lt_of_lt_of_le hq0 b2.size
  clear HP1 hr1 B1 b2 G1
  obtain ⟨w3, HW3, hd3, b3⟩ := stored_dg w2 DG
  go_upto_region 7 with (refine wpList_store_row rfl _ _ _ rfl w2.heap.size DG rfl rfl 34 _ (heap_alloc_new _ _) (by rw [hsz]; kernel_rfl) (by rw [hsz]; rfl) hone ?_)
  rw [HW3.out]
  clear HW3
  have P3 := P2.below b3
  have B3 := B2.trans (b3.mono B2.size)
  have hr3 := (b3.block _ hq2).trans hr2
  have hq7 : w2.heap.size < w3.heap.size := (Array.getElem?_eq_some_iff.1 hd3).1
  clear P2 B2 hr2 b3
  generalize hq7e : w2.heap.size = q7 at *
  clear hq7e
  obtain ⟨ta, tc, rfl, htc1, htc2⟩ := own_sl P3.ht
  obtain ⟨sa, sc, rfl, hsc1, hsc2⟩ := own_sl P3.hs
  have c2 := cell_of_row w3 g 2 _ _ _ P3.hg
  have c0 := cell_of_row w3 g 0 _ _ _ P3.hg
  have HP3 := Lib.hid P3
  clear P3
  refine wp_region_lin (S := (fun w' => w'.cell? ⟨g, 2, none⟩ = some (.map (some b)) ∧ w'.cell? ⟨g, 0, none⟩ = some (.slice ta l.length tc))) [(0, true), (1, true), (2, true), (3, true), (4, true), (5, true), (6, true), (7, true), (8, true), (9, true), (10, false)] (by kernel_rfl) (by kernel_rfl) rfl (by kernel_rfl) ?_ (fun hHeld => ?_)
  · (try dsimp only); exact ⟨c2, c0⟩
  (refine wpL_calm (o := { dst := some 31, op := Go.Op.move (Go.Operand.tmp 0), type := 23, pos := "oracle.go:28", after := #[], guard := none }) (v := ?_) rfl (Or.inl ⟨by rfl, ?_⟩) ?_; rotate_left; (focus (intro w hSw; (try dsimp only at hSw); go_simp; (try (with_reducible rfl)); done)); try simp only [Act.put, List.setIfInBounds_toArray, List.set_cons_zero, List.set_cons_succ])
  (refine wpL_calm (o := { dst := some 32, op := Go.Op.nilCheck (Go.Operand.tmp 31), type := 0, pos := "oracle.go:28", after := #[{ on := 0, ground := Go.Ground.data }], guard := none }) (v := ?_) rfl (Or.inl ⟨by rfl, ?_⟩) ?_; rotate_left; (focus (intro w hSw; (try dsimp only at hSw); go_simp; (try (with_reducible rfl)); done)); try simp only [Act.put, List.setIfInBounds_toArray, List.set_cons_zero, List.set_cons_succ])
  (refine wpL_calm (o := { dst := some 33, op := Go.Op.fieldAddr 70 (Go.Operand.tmp 32) 2, type := 0, pos := "oracle.go:28", after := #[{ on := 1, ground := Go.Ground.data }], guard := none }) (v := ?_) rfl (Or.inl ⟨by rfl, ?_⟩) ?_; rotate_left; (focus (intro w hSw; (try dsimp only at hSw); go_simp; (try (with_reducible rfl)); done)); try simp only [Act.put, List.setIfInBounds_toArray, List.set_cons_zero, List.set_cons_succ])
  (refine wpL_calm (o := { dst := some 34, op := Go.Op.load 68 (Go.Operand.tmp 33), type := 68, pos := "oracle.go:28", after := #[{ on := 2, ground := Go.Ground.data }], guard := none }) (v := ?_) rfl (Or.inl ⟨by rfl, ?_⟩) ?_; rotate_left; (focus (intro w hSw; (try dsimp only at hSw); go_simp; (try (with_reducible rfl)); done)); try simp only [Act.put, List.setIfInBounds_toArray, List.set_cons_zero, List.set_cons_succ])
  (refine wpL_calm (o := { dst := some 35, op := Go.Op.move (Go.Operand.tmp 1), type := 9, pos := "oracle.go:28", after := #[], guard := none }) (v := ?_) rfl (Or.inl ⟨by rfl, ?_⟩) ?_; rotate_left; (focus (intro w hSw; (try dsimp only at hSw); go_simp; (try (with_reducible rfl)); done)); try simp only [Act.put, List.setIfInBounds_toArray, List.set_cons_zero, List.set_cons_succ])
  (refine wpL_calm (o := { dst := some 36, op := Go.Op.move (Go.Operand.tmp 0), type := 23, pos := "oracle.go:28", after := #[], guard := none }) (v := ?_) rfl (Or.inl ⟨by rfl, ?_⟩) ?_; rotate_left; (focus (intro w hSw; (try dsimp only at hSw); go_simp; (try (with_reducible rfl)); done)); try simp only [Act.put, List.setIfInBounds_toArray, List.set_cons_zero, List.set_cons_succ])
  (refine wpL_calm (o := { dst := some 37, op := Go.Op.nilCheck (Go.Operand.tmp 36), type := 0, pos := "oracle.go:28", after := #[{ on := 5, ground := Go.Ground.data }], guard := none }) (v := ?_) rfl (Or.inl ⟨by rfl, ?_⟩) ?_; rotate_left; (focus (intro w hSw; (try dsimp only at hSw); go_simp; (try (with_reducible rfl)); done)); try simp only [Act.put, List.setIfInBounds_toArray, List.set_cons_zero, List.set_cons_succ])
  (refine wpL_calm (o := { dst := some 38, op := Go.Op.fieldAddr 70 (Go.Operand.tmp 37) 0, type := 0, pos := "oracle.go:28", after := #[{ on := 6, ground := Go.Ground.data }], guard := none }) (v := ?_) rfl (Or.inl ⟨by rfl, ?_⟩) ?_; rotate_left; (focus (intro w hSw; (try dsimp only at hSw); go_simp; (try (with_reducible rfl)); done)); try simp only [Act.put, List.setIfInBounds_toArray, List.set_cons_zero, List.set_cons_succ])
  (refine wpL_calm (o := { dst := some 39, op := Go.Op.load 25 (Go.Operand.tmp 38), type := 25, pos := "oracle.go:28", after := #[{ on := 7, ground := Go.Ground.data }], guard := none }) (v := ?_) rfl (Or.inl ⟨by rfl, ?_⟩) ?_; rotate_left; (focus (intro w hSw; (try dsimp only at hSw); go_simp; (try (with_reducible rfl)); done)); try simp only [Act.put, List.setIfInBounds_toArray, List.set_cons_zero, List.set_cons_succ])
  (refine wpL_calm (o := { dst := some 40, op := Go.Op.call { callee := Go.Callee.builtin Go.Builtin.len, args := #[Go.Operand.tmp 39], argTypes := #[25] }, type := 3, pos := "oracle.go:28", after := #[{ on := 8, ground := Go.Ground.data }], guard := none }) (v := ?_) rfl (Or.inl ⟨by rfl, ?_⟩) ?_; rotate_left; (focus (intro w hSw; (try dsimp only at hSw); go_simp; (try (with_reducible rfl)); done)); try simp only [Act.put, List.setIfInBounds_toArray, List.set_cons_zero, List.set_cons_succ])
  refine wpL_loud0 (o := { dst := none, op := Go.Op.mapUpdate 68 (Go.Operand.tmp 34) (Go.Operand.tmp 35) (Go.Operand.tmp 40), type := 0, pos := "oracle.go:28", after := #[{ on := 3, ground := Go.Ground.data }, { on := 4, ground := Go.Ground.data }, { on := 9, ground := Go.Ground.data }, { on := 0, ground := Go.Ground.phase }, { on := 1, ground := Go.Ground.phase }, { on := 2, ground := Go.Ground.phase }, { on := 3, ground := Go.Ground.phase }, { on := 4, ground := Go.Ground.phase }, { on := 5, ground := Go.Ground.phase }, { on := 6, ground := Go.Ground.phase }, { on := 7, ground := Go.Ground.phase }, { on := 8, ground := Go.Ground.phase }, { on := 9, ground := Go.Ground.phase }], guard := none }) rfl (by kernel_rfl) (fun K hK => ?_)
  (rw [if_pos (by rfl)]; refine wp_mapUpdate_own _ _ _ 68 rfl 9 3 lawS Tryd.underlying68 _ b l.length D rfl (World.ownsMap.drew HP3.out.hm) (by unfold maxLen; omega) _ _ (kS s.data.toList) rfl rfl HKEY.out (.lit (.int .i64 (l.length : Int))) [] (plainElem_int Tryd.underlying3 HWF.out) ?_; intro w4 M4 G4)
  refine hK.out _ _ ?_
  clear hK K
  try simp only [Act.put, List.setIfInBounds_toArray, List.set_cons_zero, List.set_cons_succ]
  refine wpL_nil ?_
  refine NoPanic.normal ?_
  clear c2 c0
  have P3 := HP3.out
  have hgl : g < w3.heap.size := (Array.getElem?_eq_some_iff.1 P3.hg).1
  have hg4 := (G4.block g hgl (fun e => map_block P3.hm P3.hg (Option.some.inj e))).trans P3.hg
  have T4 := own_grown (w := w3.drew) P3.ht G4 (Or.inr (own_nomap P3.ht P3.hm))
  have S4 := own_grown (w := w3.drew) P3.hs G4 (Or.inr (own_nomap P3.hs P3.hm))
  have hd4 := (G4.block q7 hq7 (fun e => map_block P3.hm hd3 (Option.some.inj e))).trans hd3
  have hr4 := (G4.block w.heap.size (Array.getElem?_eq_some_iff.1 hr3).1 (fun e => map_block P3.hm hr3 (Option.some.inj e))).trans hr3
  have hs3 : base ≤ w3.heap.size := Nat.le_trans hbw B3.size
  have B4 : Below base w w4 := (B3.mono hbw).drew.grown G4 hs3 (fun k e => by cases e; exact hbb)
  have hs4 : base ≤ w4.heap.size := Nat.le_trans hs3 G4.size
  have c0 := cell_of_row w4 g 0 _ _ _ hg4
  have HM4 := Lib.hid M4
  have HT4 := Lib.hid T4
  have HS4 := Lib.hid S4
  have HG4 := Lib.hid hg4
  have HD4 := Lib.hid hd4
  have HR4 := Lib.hid hr4
  have hq7w : w.heap.size ≤ q7 := by omega
  clear P3 HP3 M4 G4 T4 S4 hg4 hd4 hr4 hd3 hr3 B3
  go_wp2_with (at_builtin; refine wpList_append_own _ rfl _ _ 25 rfl base 9 is_ (.string ⟨#[]⟩) 1 16 Tryd.underlying25 hsi hsz0 hsz1 hsz2 rfl (by decide) (.slice ta l.length tc) l.length _ rfl (HT4.out.alloc _) ⟨w4.heap.size, 0, none⟩ 1 1 [.string s] rfl rfl (one_cell_at w4 _ _) (by intro u hu; simp at hu; subst hu; rfl) (by unfold maxLen; omega) (by omega) (by simp; omega) ?_; intro v5 w5 O5 G5 _; obtain ⟨a5, c5, rfl, hc51, hc52⟩ := own_sl O5; have hg5 := app_block G5 HG4.out (own_nostruct HT4.out HG4.out str_ne_or); have c05 := cell_of_row w5 g 0 _ _ _ hg5; have f05 := frozen_of_row w5 g 0 _ _ hg5)
  have hd5 := app_block G5 HD4.out (HTQ.out q7 hq7w)
  have hr5 := app_block G5 HR4.out (HTQ.out w.heap.size (Nat.le_refl _))
  have S5 := own_grown (HS4.out.alloc (.cells #[.string s] 9)) G5 HTS.out
  have M5 : w5.ownsMap Tryd.prog 9 (plainElem Tryd.prog 3) b (l.length + 1) (D.put (kS s.data.toList) (.lit (.int .i64 (l.length : Int)))) := map_at_block HM4.out ((G5.block b (by have := HM4.out.lt; simp; omega) (fun e => own_nomap HT4.out HM4.out e.symm)).trans (Below.heap_alloc w4 _ b HM4.out.lt))
  have B5 : Below base w w5 := (B4.alloc hs4 _).grown G5 (by simp; omega) (fun k e => (HT4.out.lt k e).1)
  have hs5 : base ≤ w5.heap.size := Nat.le_trans hs4 (by have := G5.size; simp at this; omega)
  have hg6 := or_set (v := .slice a5 (l.length + 1) c5) hg5
  have O6 := ownsRow_setCell_other O5 (a := ⟨g, 0, none⟩) (own_nostruct O5 hg5 str_ne_or) (.slice a5 (l.length + 1) c5)
  have S6 := ownsRow_setCell_other S5 (a := ⟨g, 0, none⟩) (own_nostruct S5 hg5 dig_ne_or) (.slice a5 (l.length + 1) c5)
  have M6 := map_at_block M5 (Below.heap_setCell w5 ⟨g, 0, none⟩ (.slice a5 (l.length + 1) c5) b (fun e => map_block M5 hg5 e.symm))
  have hgq : g ≠ q7 := fun e => by rw [e] at hg5; rw [hg5] at hd5; cases hd5
  have hgr : g ≠ w.heap.size := fun e => by rw [e] at hg5; rw [hg5] at hr5; cases hr5
  have hd6 := (Below.heap_setCell w5 ⟨g, 0, none⟩ (.slice a5 (l.length + 1) c5) q7 (fun e => hgq e.symm)).trans hd5
  have hr6 := (Below.heap_setCell w5 ⟨g, 0, none⟩ (.slice a5 (l.length + 1) c5) w.heap.size (fun e => hgr e.symm)).trans hr5
  have B6 : Below base w (w5.setCell ⟨g, 0, none⟩ (.slice a5 (l.length + 1) c5)) := B5.setCell (p := ⟨g, 0, none⟩) hbg (.slice a5 (l.length + 1) c5)
  have hs6 : base ≤ (w5.setCell ⟨g, 0, none⟩ (.slice a5 (l.length + 1) c5)).heap.size := by simp [World.setCell]; exact hs5
  have V5 := own_apart S6 O6 (fun e => str_ne_dig e.symm)
  clear hg5 O5 S5 M5 hd5 hr5 B5 c05 f05 G5 HM4 HT4 HS4 HG4 HD4 HR4 B4 HTS HTQ c0
  generalize hw6 : w5.setCell ⟨g, 0, none⟩ (.slice a5 (l.length + 1) c5) = w6 at *
  clear hw6
  have c1 := cell_of_row w6 g 1 _ _ _ hg6
  have hrow6 : w6.rangeAt q7 0 BV := fun j u hu => by rw [Nat.zero_add, cell_of_row w6 q7 j _ _ _ hd6, ← HDG.out, List.getElem?_toArray]; exact hu
  have HG6 := Lib.hid hg6
  have HO6 := Lib.hid O6
  have HS6 := Lib.hid S6
  have HM6 := Lib.hid M6
  have HD6 := Lib.hid hd6
  have HR6 := Lib.hid hr6
  have HV5 := Lib.hid V5
  have hgl6 : g < w6.heap.size := (Array.getElem?_eq_some_iff.1 hg6).1
  have hql6 : q7 < w6.heap.size := (Array.getElem?_eq_some_iff.1 hd6).1
  have hcell32 : (Value.agg DG).cells.size = 32 := hsz
  have HC32 := Lib.hid hcell32
  have HNEW : Hid (∀ j u, BV[j]? = some u → (w6.alloc (.cells DG 34)).drew.cell? ((⟨w6.heap.size, 0, none⟩ : Addr).add j) = some u) := Lib.hid (fun j u hu => by
    have h : (w6.alloc (.cells DG 34)).drew.heap[w6.heap.size]? = some (.cells DG 34 (0, 0)) := heap_alloc_new _ _
    rw [Addr.add_mid, Nat.zero_add, cell_of_row _ _ j _ _ _ h, ← HDG.out, List.getElem?_toArray]
    exact hu)
  have HONE : Hid (∀ u ∈ BV, u.oneCell' = true) := Lib.hid (fun u hu => by
    have h2 := hone
    rw [← HDG.out] at h2
    simp only [List.all_toArray, List.all_eq_true] at h2
    exact h2 u hu)
  clear hg6 O6 S6 M6 hd6 hr6 V5 hcell32
  refine wp_region_lin (S := (fun w' => w'.cell? ⟨g, 1, none⟩ = some (.slice sa l.length sc) ∧ w'.rangeAt q7 0 BV)) [(0, true), (1, true), (2, true), (3, true), (4, true), (5, true), (6, false), (7, false), (8, true), (9, true), (10, false)] (by kernel_rfl) (by kernel_rfl) rfl (by kernel_rfl) ?_ (fun hHeld => ?_)
  · (try dsimp only); exact ⟨c1, hrow6⟩
  (refine wpL_calm (o := { dst := some 51, op := Go.Op.move (Go.Operand.tmp 0), type := 23, pos := "oracle.go:30", after := #[], guard := none }) (v := ?_) rfl (Or.inl ⟨by rfl, ?_⟩) ?_; rotate_left; (focus (intro w hSw; (try dsimp only at hSw); go_simp; (try (with_reducible rfl)); done)); try simp only [Act.put, List.setIfInBounds_toArray, List.set_cons_zero, List.set_cons_succ])
  (refine wpL_calm (o := { dst := some 52, op := Go.Op.move (Go.Operand.tmp 0), type := 23, pos := "oracle.go:30", after := #[], guard := none }) (v := ?_) rfl (Or.inl ⟨by rfl, ?_⟩) ?_; rotate_left; (focus (intro w hSw; (try dsimp only at hSw); go_simp; (try (with_reducible rfl)); done)); try simp only [Act.put, List.setIfInBounds_toArray, List.set_cons_zero, List.set_cons_succ])
  (refine wpL_calm (o := { dst := some 53, op := Go.Op.nilCheck (Go.Operand.tmp 52), type := 0, pos := "oracle.go:30", after := #[{ on := 1, ground := Go.Ground.data }], guard := none }) (v := ?_) rfl (Or.inl ⟨by rfl, ?_⟩) ?_; rotate_left; (focus (intro w hSw; (try dsimp only at hSw); go_simp; (try (with_reducible rfl)); done)); try simp only [Act.put, List.setIfInBounds_toArray, List.set_cons_zero, List.set_cons_succ])
  (refine wpL_calm (o := { dst := some 54, op := Go.Op.fieldAddr 70 (Go.Operand.tmp 53) 1, type := 0, pos := "oracle.go:30", after := #[{ on := 2, ground := Go.Ground.data }], guard := none }) (v := ?_) rfl (Or.inl ⟨by rfl, ?_⟩) ?_; rotate_left; (focus (intro w hSw; (try dsimp only at hSw); go_simp; (try (with_reducible rfl)); done)); try simp only [Act.put, List.setIfInBounds_toArray, List.set_cons_zero, List.set_cons_succ])
  (refine wpL_calm (o := { dst := some 55, op := Go.Op.load 54 (Go.Operand.tmp 54), type := 54, pos := "oracle.go:30", after := #[{ on := 3, ground := Go.Ground.data }], guard := none }) (v := ?_) rfl (Or.inl ⟨by rfl, ?_⟩) ?_; rotate_left; (focus (intro w hSw; (try dsimp only at hSw); go_simp; (try (with_reducible rfl)); done)); try simp only [Act.put, List.setIfInBounds_toArray, List.set_cons_zero, List.set_cons_succ])
  refine wpL_calm (o := { dst := some 56, op := Go.Op.load 34 (Go.Operand.tmp 7), type := 34, pos := "oracle.go:30", after := #[], guard := none }) rfl (yieldsIf_load_mid (by rfl) _ _ rfl q7 0 rfl BV _ (fun _ h => h.2) Tryd.underlying34 rfl (by rw [HDL.out]; kernel_rfl)) ?_; rw [HDG.out]
  try simp only [Act.put, List.setIfInBounds_toArray, List.set_cons_zero, List.set_cons_succ]
  refine wpL_loud1 (o := { dst := some 57, op := Go.Op.buildSlice 54 1 #[(0, Go.Operand.tmp 56)], type := 54, pos := "oracle.go:30", after := #[{ on := 5, ground := Go.Ground.data }], guard := none }) rfl (fun K hK => ?_)
  (rw [if_pos (by rfl)]; refine wp_build1 54 34 _ rfl id_ (.agg z32) 32 Tryd.underlying54 hdi hdz0 hdz1 (by decide) (by decide) (.agg DG) rfl HC32.out ?_)
  refine hK.out _ _ ?_ (fun hHeld => ?_)
  · (try dsimp only); exact keep_alloc (w := w6.drew) _ c1 hrow6 hgl6 hql6
  clear hK K
  try simp only [Act.put, List.setIfInBounds_toArray, List.set_cons_zero, List.set_cons_succ]
  refine wpL_loud1 (o := { dst := some 58, op := Go.Op.call { callee := Go.Callee.builtin Go.Builtin.append, args := #[Go.Operand.tmp 55, Go.Operand.tmp 57], argTypes := #[54, 54] }, type := 54, pos := "oracle.go:30", after := #[{ on := 4, ground := Go.Ground.data }, { on := 6, ground := Go.Ground.data }], guard := none }) rfl (fun K hK => ?_)
  (rw [if_pos (by rfl)]; refine wp_append_src2 _ _ _ 54 54 rfl base 34 id_ (.agg z32) 32 32 Tryd.underlying54 hdi hdz0 hdz1 hdz2 rfl (by decide) (.slice sa l.length sc) l.length _ rfl (own_alloc HS6.out _) (.slice (some ⟨w6.heap.size, 0, none⟩) 1 1) 1 BV rfl (Src.ofSlice _ Tryd.underlying54 ⟨w6.heap.size, 0, none⟩ 1 1 BV (by rw [HDL.out]) HNEW.out HONE.out) (by unfold maxLen; omega) (by omega) (by simp; omega) ?_; intro v7 w7 O7 G7 A7; obtain ⟨a7, c7, rfl, hc71, hc72⟩ := own_sl O7; have hg7 := app_block (w := w6.drew) (o := .cells DG 34) G7 HG6.out (own_nostruct HS6.out HG6.out dig_ne_or); have c17 := cell_of_row w7 g 1 _ _ _ hg7; have f17 := frozen_of_row w7 g 1 _ _ hg7)
  try go_wp2_with fail
  refine hK.out _ _ ?_ (fun hHeld => ?_)
  · (try dsimp only); exact ⟨c17, range_dg (app_block (w := w6.drew) (o := .cells DG 34) G7 HD6.out (HSQ.out q7 hq7w)) HDG.out⟩
  clear hK K
  try simp only [Act.put, List.setIfInBounds_toArray, List.set_cons_zero, List.set_cons_succ]
  (refine wpL_calm (o := { dst := some 59, op := Go.Op.nilCheck (Go.Operand.tmp 51), type := 0, pos := "oracle.go:30", after := #[{ on := 0, ground := Go.Ground.data }, { on := 0, ground := Go.Ground.phase }, { on := 1, ground := Go.Ground.phase }, { on := 2, ground := Go.Ground.phase }, { on := 3, ground := Go.Ground.phase }, { on := 4, ground := Go.Ground.phase }, { on := 5, ground := Go.Ground.phase }, { on := 6, ground := Go.Ground.phase }, { on := 7, ground := Go.Ground.phase }], guard := none }) (v := ?_) rfl (Or.inl ⟨by rfl, ?_⟩) ?_; rotate_left; (focus (intro w hSw; (try dsimp only at hSw); go_simp; (try (with_reducible rfl)); done)); try simp only [Act.put, List.setIfInBounds_toArray, List.set_cons_zero, List.set_cons_succ])
  (refine wpL_calm (o := { dst := some 60, op := Go.Op.fieldAddr 70 (Go.Operand.tmp 59) 1, type := 0, pos := "oracle.go:30", after := #[{ on := 8, ground := Go.Ground.data }, { on := 0, ground := Go.Ground.phase }, { on := 1, ground := Go.Ground.phase }, { on := 2, ground := Go.Ground.phase }, { on := 3, ground := Go.Ground.phase }, { on := 4, ground := Go.Ground.phase }, { on := 5, ground := Go.Ground.phase }, { on := 6, ground := Go.Ground.phase }, { on := 7, ground := Go.Ground.phase }], guard := none }) (v := ?_) rfl (Or.inl ⟨by rfl, ?_⟩) ?_; rotate_left; (focus (intro w hSw; (try dsimp only at hSw); go_simp; (try (with_reducible rfl)); done)); try simp only [Act.put, List.setIfInBounds_toArray, List.set_cons_zero, List.set_cons_succ])
  refine wpL_loud0 (o := { dst := none, op := Go.Op.store 54 (Go.Operand.tmp 60) (Go.Operand.tmp 58), type := 0, pos := "oracle.go:30", after := #[{ on := 9, ground := Go.Ground.data }, { on := 7, ground := Go.Ground.data }, { on := 7, ground := Go.Ground.chain }, { on := 0, ground := Go.Ground.phase }, { on := 1, ground := Go.Ground.phase }, { on := 2, ground := Go.Ground.phase }, { on := 3, ground := Go.Ground.phase }, { on := 4, ground := Go.Ground.phase }, { on := 5, ground := Go.Ground.phase }, { on := 6, ground := Go.Ground.phase }, { on := 7, ground := Go.Ground.phase }], guard := none }) rfl (by kernel_rfl) (fun K hK => ?_)
  go_simp
  refine hK.out _ _ ?_
  clear hK K
  try simp only [Act.put, List.setIfInBounds_toArray, List.set_cons_zero, List.set_cons_succ]
  refine wpL_nil ?_
  refine NoPanic.normal ?_
  clear c1 hrow6 hHeld
  have hd7 := app_block (w := w6.drew) (o := .cells DG 34) G7 HD6.out (HSQ.out q7 hq7w)
  have hr7 := app_block (w := w6.drew) (o := .cells DG 34) G7 HR6.out (HSQ.out w.heap.size (Nat.le_refl _))
  have T7 := own_grown (own_alloc HO6.out (.cells DG 34)) G7 (own_apart (own_alloc HO6.out (.cells DG 34)) (own_alloc HS6.out (.cells DG 34)) str_ne_dig)
  have M7 := map_at_block HM6.out ((G7.block b (by have := HM6.out.lt; simp; omega) (fun e => own_nomap HS6.out HM6.out e.symm)).trans (Below.heap_alloc w6 _ b HM6.out.lt))
  have B7 : Below base w w7 := ((B6.alloc hs6 _).drew).grown G7 (by simp; omega) (fun k e => (HS6.out.lt k e).1)
  have hg8 := or_set1 (v := .slice a7 (l.length + 1) c7) hg7
  have O8 := ownsRow_setCell_other O7 (a := ⟨g, 1, none⟩) (own_nostruct O7 hg7 dig_ne_or) (.slice a7 (l.length + 1) c7)
  have T8 := ownsRow_setCell_other T7 (a := ⟨g, 1, none⟩) (own_nostruct T7 hg7 str_ne_or) (.slice a7 (l.length + 1) c7)
  have M8 := map_at_block M7 (Below.heap_setCell w7 ⟨g, 1, none⟩ (.slice a7 (l.length + 1) c7) b (fun e => map_block M7 hg7 e.symm))
  have hd8 := (Below.heap_setCell w7 ⟨g, 1, none⟩ (.slice a7 (l.length + 1) c7) q7 (fun e => hgq e.symm)).trans hd7
  have hr8 := (Below.heap_setCell w7 ⟨g, 1, none⟩ (.slice a7 (l.length + 1) c7) w.heap.size (fun e => hgr e.symm)).trans hr7
  have B8 : Below base w (w7.setCell ⟨g, 1, none⟩ (.slice a7 (l.length + 1) c7)) := B7.setCell (p := ⟨g, 1, none⟩) hbg _
  clear c17 f17 hg7 O7 T7 M7 hd7 hr7 B7 G7
  generalize hw8 : w7.setCell ⟨g, 1, none⟩ (.slice a7 (l.length + 1) c7) = w8 at *
  clear hw8
  have hrow8 : w8.rangeAt q7 0 BV := fun j u hu => by rw [Nat.zero_add, cell_of_row w8 q7 j _ _ _ hd8, ← HDG.out, List.getElem?_toArray]; exact hu
  go_wp2_with (first | (refine wpList_load_mid rfl 34 _ rfl q7 0 rfl BV _ hrow8 Tryd.underlying34 rfl (by rw [HDL.out]; kernel_rfl) ?_; rw [HDG.out]) | (refine wpList_store_row rfl _ _ _ rfl w.heap.size DG rfl rfl 34 _ hr8 (by rw [hsz]; kernel_rfl) (by rw [hsz]; rfl) hone ?_))
  refine bodyPost_ret_by (results_cell_row rfl _ _ w.heap.size 34 DG (0, 0) _ rfl (setRow_heap _ _ _ DG 34 (0, 0) hr8) Tryd.underlying34 rfl (by rw [hsz]; kernel_rfl)) rfl ?_
  have hq8 : (Value.slice a7 (l.length + 1) c7).ownBlock ≠ some w.heap.size := by
    rcases A7 with h | h
    · rw [h]; exact HSQ.out w.heap.size (Nat.le_refl _)
    · rw [h]
      intro e
      have := Option.some.inj e
      simp at this
      omega
  have hgr' : g ≠ w.heap.size := hgr
  have hg9 := (setRow_other w8 w.heap.size g DG hgr).trans hg8
  have O9 : (w8.setRow w.heap.size DG).ownsRow base 34 32 (.slice a7 (l.length + 1) c7) (l.length + 1) _ := own_at_block O8 (fun k e => setRow_other w8 w.heap.size k DG (fun e2 => hq8 (by rw [e, e2])))
  have T9 : (w8.setRow w.heap.size DG).ownsRow base 9 1 (.slice a5 (l.length + 1) c5) (l.length + 1) _ := own_at_block T8 (fun k e => setRow_other w8 w.heap.size k DG (fun e2 => own_nostruct T8 hr8 str_ne_dig (by rw [e, e2])))
  have M9 := map_at_block M8 (setRow_other w8 w.heap.size b DG (fun e => map_block M8 hr8 e.symm))
  exact ⟨_, _, _, rfl, ⟨hbg, hg9, by rw [HLA.out, HMA.out]; exact T9, by rw [HLA.out, HFA.out]; exact O9, by rw [HLA.out]; exact M9, hbb, HIXP.out, HND.out⟩, below_setRow B8 hbw _⟩
end Go.Proofs.YtaneecmfgfkaaaaDoor
