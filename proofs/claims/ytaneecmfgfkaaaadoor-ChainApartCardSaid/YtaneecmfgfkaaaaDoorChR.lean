/- The law ChainApart (made by genchr.py). -/
import Derived.Test.YtaneecmfgfkaaaaDoorChQ
namespace Go.Proofs.YtaneecmfgfkaaaaDoor
open Go.RowKit Go.Deep Go.Maps Go.ChangeShapes Go.WideShapes
set_option linter.unusedVariables false
set_option linter.unusedSimpArgs false
def RwS (w : World) (q : Nat) (a : List UInt8) (v1 v2 v3 v4 : Value) : Prop := w.rangeAt q 0 (bv a) ∧ w.cell? ⟨q, 32, none⟩ = some v1 ∧ w.cell? ⟨q, 33, none⟩ = some v2 ∧ w.cell? ⟨q, 34, none⟩ = some v3 ∧ w.cell? ⟨q, 35, none⟩ = some v4
theorem rowsV_at (a : List UInt8) (v1 v2 v3 v4 : Value) (ha : a.length = 32) : (rowsV a v1 v2 v3 v4)[32]? = some v1 ∧ (rowsV a v1 v2 v3 v4)[33]? = some v2 ∧ (rowsV a v1 v2 v3 v4)[34]? = some v3 ∧ (rowsV a v1 v2 v3 v4)[35]? = some v4 := by
  have hb : (bv a).length = 32 := by unfold bv; rw [List.length_map, ha]
  unfold rowsV
  refine ⟨?_, ?_, ?_, ?_⟩ <;> (rw [List.getElem?_toArray, List.getElem?_append_right (by omega), hb]; rfl)
theorem rwS (w : World) (q : Nat) (a : List UInt8) (v1 v2 v3 v4 : Value) (ha : a.length = 32) (T : TypeId) (h : w.heap[q]? = some (.cells (rowsV a v1 v2 v3 v4) T (0, 0))) : RwS w q a v1 v2 v3 v4 := by
  obtain ⟨h1, h2, h3, h4⟩ := rowsV_at a v1 v2 v3 v4 ha
  refine ⟨fun j u hu => ?_, (cell_of_row w q 32 _ _ _ h).trans h1, (cell_of_row w q 33 _ _ _ h).trans h2, (cell_of_row w q 34 _ _ _ h).trans h3, (cell_of_row w q 35 _ _ _ h).trans h4⟩
  rw [Nat.zero_add]
  refine (cell_of_row w q j _ _ _ h).trans ?_
  unfold rowsV
  rw [List.getElem?_toArray, List.getElem?_append_left (List.getElem?_eq_some_iff.1 hu).1, hu]
theorem made_rw (w : World) (D : Array Value) : ∃ w3, Hid (w.alloc (.cells D 51) = w3) ∧ w3.heap[w.heap.size]? = some (.cells D 51 (0, 0)) ∧ Below w.heap.size w w3 := ⟨_, Lib.hid rfl, heap_alloc_new _ _, (Below.refl _ _).alloc (Nat.le_refl _) _⟩
/-- Are the first k rows the same? -/
def smR (R Q : List (List ByteArray)) (k : Nat) : Bool := (List.range k).all fun i => decide (R[i]?.getD [] = Q[i]?.getD [])
theorem smR_step (R Q : List (List ByteArray)) (k : Nat) : smR R Q (k + 1) = (smR R Q k && decide (R[k]?.getD [] = Q[k]?.getD [])) := by unfold smR; rw [List.range_succ, List.all_append]; simp
theorem smR_zero (R Q : List (List ByteArray)) : smR R Q 0 = true := rfl
theorem smR_full (R Q : List (List ByteArray)) (h : R.length = Q.length) : smR R Q R.length = decide (R = Q) := by
  by_cases e : R = Q
  · subst e
    rw [decide_eq_true rfl]
    unfold smR
    simp
  · rw [decide_eq_false e]
    refine Bool.eq_false_iff.2 fun hs => e (List.ext_getElem h fun i h1 h2 => ?_)
    unfold smR at hs
    have := List.all_eq_true.1 hs i (List.mem_range.2 h1)
    rw [List.getElem?_eq_getElem h1, List.getElem?_eq_getElem h2] at this
    simpa using this
attribute [local irreducible] digA sumL z32 alL alT nextL nextD erB alongD erR nextT smR bv
set_option maxRecDepth 100000 in
set_option maxHeartbeats 8000000 in
theorem chainApart_big1 (a : List UInt8) (la lb lr lq : Option Addr) (n c m d k e j f : Nat) (w : World) (hG : Gl w) (ha : a.length = 32) (h : 100 < n) :
    Calls Tryd.prog 6 #[.agg (rowsV a (.slice la n c) (.slice lb m d) (.slice lr k e) (.slice lq j f))] w fun e w' => e = .returned (.bool true) ∧ Below w.heap.size w w' := by
  have hz := zero_dig
  have t1 : (100 : Int) < (n : Int) := by omega
  have OA : Hid (DigOk (digA a)) := Lib.hid (DigOk.d a ha)
  have HBA : Hid ((bv a).toArray = digA a) := Lib.hid (by with_unfolding_all rfl)
  have HBL : Hid ((bv a).length = 32) := Lib.hid (by with_unfolding_all (unfold bv; rw [List.length_map, ha]))
  have HRS := Lib.hid (fun w q h => rwS w q a (.slice la n c) (.slice lb m d) (.slice lr k e) (.slice lq j f) ha 51 h)
  have zA := OA.out.sz
  have oA := OA.out.one
  obtain ⟨w1, HW1, hR1, B1⟩ := made_rw w (rowsV a (.slice la n c) (.slice lb m d) (.slice lr k e) (.slice lq j f))
  obtain ⟨RV, HRV⟩ : ∃ RV, rowsV a (.slice la n c) (.slice lb m d) (.slice lr k e) (.slice lq j f) = RV := ⟨_, rfl⟩
  rw [HRV] at HW1 hR1 ⊢
  unfold RwS at HRS
  simp only [HRV] at HRS
  clear HRV
  generalize digA a = DA at *
  generalize bv a = BA at *
  go_enter Tryd.func6, Tryd.ntmps6
  go_upto_region 1 with fail
  rw [HW1.out]
  clear HW1
  have hR1d : w1.drew.heap[w.heap.size]? = some (.cells RV 51 (0, 0)) := hR1
  have B1d := B1.drew
  clear hR1 B1
  refine wp_region_lin (S := (fun w' => w'.rangeAt w.heap.size 0 BA ∧ w'.cell? ⟨w.heap.size, 32, none⟩ = some (.slice la n c) ∧ w'.cell? ⟨w.heap.size, 33, none⟩ = some (.slice lb m d) ∧ w'.cell? ⟨w.heap.size, 34, none⟩ = some (.slice lr k e) ∧ w'.cell? ⟨w.heap.size, 35, none⟩ = some (.slice lq j f))) [(0, true), (1, true), (2, true), (3, true), (4, true), (5, true), (6, true), (7, true), (8, true), (9, true), (10, false), (11, false), (12, true), (13, true), (14, true), (15, true)] (by kernel_rfl) (by kernel_rfl) rfl (by kernel_rfl) ?_ (fun hHeld => ?_)
  · (try dsimp only); exact HRS.out _ _ hR1d
  generalize World.drew w1 = wd at *
  (refine wpL_calm (o := { dst := some 25, op := Go.Op.fieldAddr 51 (Go.Operand.tmp 1) 0, type := 0, pos := "law.go:104", after := #[], guard := none }) (v := ?_) rfl (Or.inl ⟨by rfl, ?_⟩) ?_; rotate_left; (focus (intro w hSw; (try dsimp only at hSw); go_simp; (try (with_reducible rfl)); done)); try simp only [Act.put, List.setIfInBounds_toArray, List.set_cons_zero, List.set_cons_succ])
  refine wpL_calm (o := { dst := some 26, op := Go.Op.load 34 (Go.Operand.tmp 25), type := 34, pos := "law.go:104", after := #[{ on := 0, ground := Go.Ground.data }], guard := none }) rfl (yieldsIf_load_mid (by rfl) _ _ rfl w.heap.size 0 rfl BA _ (fun _ h => h.1) Tryd.underlying34 rfl (by rw [HBL.out]; kernel_rfl)) ?_; rw [HBA.out]
  try simp only [Act.put, List.setIfInBounds_toArray, List.set_cons_zero, List.set_cons_succ]
  (refine wpL_calm (o := { dst := some 27, op := Go.Op.fieldAddr 51 (Go.Operand.tmp 1) 1, type := 0, pos := "law.go:104", after := #[{ on := 11, ground := Go.Ground.gcOnly Go.Departure.lateStores }], guard := none }) (v := ?_) rfl (Or.inl ⟨by rfl, ?_⟩) ?_; rotate_left; (focus (intro w hSw; (try dsimp only at hSw); go_simp; (try (with_reducible rfl)); done)); try simp only [Act.put, List.setIfInBounds_toArray, List.set_cons_zero, List.set_cons_succ])
  (refine wpL_calm (o := { dst := some 28, op := Go.Op.load 25 (Go.Operand.tmp 27), type := 25, pos := "law.go:104", after := #[{ on := 2, ground := Go.Ground.data }, { on := 11, ground := Go.Ground.gcOnly Go.Departure.lateStores }], guard := none }) (v := ?_) rfl (Or.inl ⟨by rfl, ?_⟩) ?_; rotate_left; (focus (intro w hSw; (try dsimp only at hSw); go_simp; (try (with_reducible rfl)); done)); try simp only [Act.put, List.setIfInBounds_toArray, List.set_cons_zero, List.set_cons_succ])
  (refine wpL_calm (o := { dst := some 29, op := Go.Op.fieldAddr 51 (Go.Operand.tmp 1) 2, type := 0, pos := "law.go:104", after := #[{ on := 12, ground := Go.Ground.gcOnly Go.Departure.lateStores }], guard := none }) (v := ?_) rfl (Or.inl ⟨by rfl, ?_⟩) ?_; rotate_left; (focus (intro w hSw; (try dsimp only at hSw); go_simp; (try (with_reducible rfl)); done)); try simp only [Act.put, List.setIfInBounds_toArray, List.set_cons_zero, List.set_cons_succ])
  (refine wpL_calm (o := { dst := some 30, op := Go.Op.load 25 (Go.Operand.tmp 29), type := 25, pos := "law.go:104", after := #[{ on := 4, ground := Go.Ground.data }, { on := 12, ground := Go.Ground.gcOnly Go.Departure.lateStores }], guard := none }) (v := ?_) rfl (Or.inl ⟨by rfl, ?_⟩) ?_; rotate_left; (focus (intro w hSw; (try dsimp only at hSw); go_simp; (try (with_reducible rfl)); done)); try simp only [Act.put, List.setIfInBounds_toArray, List.set_cons_zero, List.set_cons_succ])
  (refine wpL_calm (o := { dst := some 31, op := Go.Op.fieldAddr 51 (Go.Operand.tmp 1) 3, type := 0, pos := "law.go:104", after := #[{ on := 13, ground := Go.Ground.gcOnly Go.Departure.lateStores }], guard := none }) (v := ?_) rfl (Or.inl ⟨by rfl, ?_⟩) ?_; rotate_left; (focus (intro w hSw; (try dsimp only at hSw); go_simp; (try (with_reducible rfl)); done)); try simp only [Act.put, List.setIfInBounds_toArray, List.set_cons_zero, List.set_cons_succ])
  (refine wpL_calm (o := { dst := some 32, op := Go.Op.load 47 (Go.Operand.tmp 31), type := 47, pos := "law.go:104", after := #[{ on := 6, ground := Go.Ground.data }, { on := 13, ground := Go.Ground.gcOnly Go.Departure.lateStores }], guard := none }) (v := ?_) rfl (Or.inl ⟨by rfl, ?_⟩) ?_; rotate_left; (focus (intro w hSw; (try dsimp only at hSw); go_simp; (try (with_reducible rfl)); done)); try simp only [Act.put, List.setIfInBounds_toArray, List.set_cons_zero, List.set_cons_succ])
  (refine wpL_calm (o := { dst := some 33, op := Go.Op.fieldAddr 51 (Go.Operand.tmp 1) 4, type := 0, pos := "law.go:104", after := #[{ on := 14, ground := Go.Ground.gcOnly Go.Departure.lateStores }], guard := none }) (v := ?_) rfl (Or.inl ⟨by rfl, ?_⟩) ?_; rotate_left; (focus (intro w hSw; (try dsimp only at hSw); go_simp; (try (with_reducible rfl)); done)); try simp only [Act.put, List.setIfInBounds_toArray, List.set_cons_zero, List.set_cons_succ])
  (refine wpL_calm (o := { dst := some 34, op := Go.Op.load 47 (Go.Operand.tmp 33), type := 47, pos := "law.go:104", after := #[{ on := 8, ground := Go.Ground.data }, { on := 14, ground := Go.Ground.gcOnly Go.Departure.lateStores }], guard := none }) (v := ?_) rfl (Or.inl ⟨by rfl, ?_⟩) ?_; rotate_left; (focus (intro w hSw; (try dsimp only at hSw); go_simp; (try (with_reducible rfl)); done)); try simp only [Act.put, List.setIfInBounds_toArray, List.set_cons_zero, List.set_cons_succ])
  refine wpL_loud1 (o := { dst := some 3, op := Go.Op.alloc 34, type := 0, pos := "law.go:104", after := #[], guard := none }) rfl (fun K hK => ?_)
  go_simp
  refine hK.out _ _ ?_ (fun hHeld => ?_)
  · (try dsimp only); exact HRS.out _ _ (blk_belowC ((Below.refl _ _).alloc (Nat.le_refl _) _) hR1d)
  clear hK K
  try simp only [Act.put, List.setIfInBounds_toArray, List.set_cons_zero, List.set_cons_succ]
  refine wpL_loud1 (o := { dst := none, op := Go.Op.store 34 (Go.Operand.tmp 3) (Go.Operand.tmp 26), type := 0, pos := "law.go:104", after := #[{ on := 10, ground := Go.Ground.data }, { on := 1, ground := Go.Ground.data }, { on := 0, ground := Go.Ground.phase }, { on := 1, ground := Go.Ground.phase }, { on := 2, ground := Go.Ground.textOnly Go.Departure.lateStores }, { on := 3, ground := Go.Ground.textOnly Go.Departure.lateStores }, { on := 4, ground := Go.Ground.textOnly Go.Departure.lateStores }, { on := 5, ground := Go.Ground.textOnly Go.Departure.lateStores }, { on := 6, ground := Go.Ground.textOnly Go.Departure.lateStores }, { on := 7, ground := Go.Ground.textOnly Go.Departure.lateStores }, { on := 8, ground := Go.Ground.textOnly Go.Departure.lateStores }, { on := 9, ground := Go.Ground.textOnly Go.Departure.lateStores }, { on := 10, ground := Go.Ground.phase }], guard := none }) rfl (fun K hK => ?_)
  (rw [if_pos (by rfl)]; refine wp_store_row _ _ _ rfl wd.heap.size DA rfl rfl 34 _ (heap_alloc_new _ _) (by rw [zA]; kernel_rfl) (by rw [zA, z32_sizeC]) oA ?_)
  refine hK.out _ _ ?_ (fun hHeld => ?_)
  · (try dsimp only); exact HRS.out _ _ ((setRow_other _ _ _ DA (Nat.ne_of_lt (blk_ltC hR1d))).trans (blk_belowC ((Below.refl _ _).alloc (Nat.le_refl _) _) hR1d))
  clear hK K
  try simp only [Act.put, List.setIfInBounds_toArray, List.set_cons_zero, List.set_cons_succ]
  (refine wpL_calm (o := { dst := some 4, op := Go.Op.assign (Go.Operand.tmp 28), type := 25, pos := "law.go:104", after := #[{ on := 3, ground := Go.Ground.data }, { on := 11, ground := Go.Ground.chain }, { on := 0, ground := Go.Ground.phase }, { on := 1, ground := Go.Ground.phase }, { on := 2, ground := Go.Ground.phase }, { on := 3, ground := Go.Ground.phase }, { on := 4, ground := Go.Ground.textOnly Go.Departure.lateStores }, { on := 5, ground := Go.Ground.textOnly Go.Departure.lateStores }, { on := 6, ground := Go.Ground.textOnly Go.Departure.lateStores }, { on := 7, ground := Go.Ground.textOnly Go.Departure.lateStores }, { on := 8, ground := Go.Ground.textOnly Go.Departure.lateStores }, { on := 9, ground := Go.Ground.textOnly Go.Departure.lateStores }, { on := 10, ground := Go.Ground.phase }, { on := 11, ground := Go.Ground.phase }], guard := none }) (v := ?_) rfl (Or.inl ⟨by rfl, ?_⟩) ?_; rotate_left; (focus (intro w hSw; (try dsimp only at hSw); go_simp; (try (with_reducible rfl)); done)); try simp only [Act.put, List.setIfInBounds_toArray, List.set_cons_zero, List.set_cons_succ])
  (refine wpL_calm (o := { dst := some 5, op := Go.Op.assign (Go.Operand.tmp 30), type := 25, pos := "law.go:104", after := #[{ on := 5, ground := Go.Ground.data }, { on := 12, ground := Go.Ground.chain }, { on := 0, ground := Go.Ground.phase }, { on := 1, ground := Go.Ground.phase }, { on := 2, ground := Go.Ground.phase }, { on := 3, ground := Go.Ground.phase }, { on := 4, ground := Go.Ground.phase }, { on := 5, ground := Go.Ground.phase }, { on := 6, ground := Go.Ground.textOnly Go.Departure.lateStores }, { on := 7, ground := Go.Ground.textOnly Go.Departure.lateStores }, { on := 8, ground := Go.Ground.textOnly Go.Departure.lateStores }, { on := 9, ground := Go.Ground.textOnly Go.Departure.lateStores }, { on := 10, ground := Go.Ground.phase }, { on := 11, ground := Go.Ground.phase }, { on := 12, ground := Go.Ground.phase }], guard := none }) (v := ?_) rfl (Or.inl ⟨by rfl, ?_⟩) ?_; rotate_left; (focus (intro w hSw; (try dsimp only at hSw); go_simp; (try (with_reducible rfl)); done)); try simp only [Act.put, List.setIfInBounds_toArray, List.set_cons_zero, List.set_cons_succ])
  (refine wpL_calm (o := { dst := some 6, op := Go.Op.assign (Go.Operand.tmp 32), type := 47, pos := "law.go:104", after := #[{ on := 7, ground := Go.Ground.data }, { on := 13, ground := Go.Ground.chain }, { on := 0, ground := Go.Ground.phase }, { on := 1, ground := Go.Ground.phase }, { on := 2, ground := Go.Ground.phase }, { on := 3, ground := Go.Ground.phase }, { on := 4, ground := Go.Ground.phase }, { on := 5, ground := Go.Ground.phase }, { on := 6, ground := Go.Ground.phase }, { on := 7, ground := Go.Ground.phase }, { on := 8, ground := Go.Ground.textOnly Go.Departure.lateStores }, { on := 9, ground := Go.Ground.textOnly Go.Departure.lateStores }, { on := 10, ground := Go.Ground.phase }, { on := 11, ground := Go.Ground.phase }, { on := 12, ground := Go.Ground.phase }, { on := 13, ground := Go.Ground.phase }], guard := none }) (v := ?_) rfl (Or.inl ⟨by rfl, ?_⟩) ?_; rotate_left; (focus (intro w hSw; (try dsimp only at hSw); go_simp; (try (with_reducible rfl)); done)); try simp only [Act.put, List.setIfInBounds_toArray, List.set_cons_zero, List.set_cons_succ])
  (refine wpL_calm (o := { dst := some 7, op := Go.Op.assign (Go.Operand.tmp 34), type := 47, pos := "law.go:104", after := #[{ on := 9, ground := Go.Ground.data }, { on := 14, ground := Go.Ground.chain }, { on := 0, ground := Go.Ground.phase }, { on := 1, ground := Go.Ground.phase }, { on := 2, ground := Go.Ground.phase }, { on := 3, ground := Go.Ground.phase }, { on := 4, ground := Go.Ground.phase }, { on := 5, ground := Go.Ground.phase }, { on := 6, ground := Go.Ground.phase }, { on := 7, ground := Go.Ground.phase }, { on := 8, ground := Go.Ground.phase }, { on := 9, ground := Go.Ground.phase }, { on := 10, ground := Go.Ground.phase }, { on := 11, ground := Go.Ground.phase }, { on := 12, ground := Go.Ground.phase }, { on := 13, ground := Go.Ground.phase }, { on := 14, ground := Go.Ground.phase }], guard := none }) (v := ?_) rfl (Or.inl ⟨by rfl, ?_⟩) ?_; rotate_left; (focus (intro w hSw; (try dsimp only at hSw); go_simp; (try (with_reducible rfl)); done)); try simp only [Act.put, List.setIfInBounds_toArray, List.set_cons_zero, List.set_cons_succ])
  refine wpL_nil ?_
  refine NoPanic.normal ?_
  obtain ⟨w2, HW2, hd2, b2⟩ := stored_dg wd DA
  rw [HW2.out]
  clear HW2 hHeld
  have B2 := B1d.trans (b2.mono B1d.size)
  have HL3 : Hid (wd.heap.size < w2.heap.size) := Lib.hid (blk_ltC hd2)
  clear b2 B1d hR1d HRS HBA HBL
  generalize wd.heap.size = q3 at *
  go_wp2_with fail
  refine (awake14 _ (hG.below B2)).mono ?_
  rintro e w5 ⟨rfl, b5⟩
  go_wp2_with fail
  go_ret
  exact ⟨rfl, B2.trans (b5.mono B2.size)⟩
set_option maxRecDepth 100000 in
set_option maxHeartbeats 8000000 in
theorem chainApart_big2 (a : List UInt8) (la lb lr lq : Option Addr) (n c m d k e j f : Nat) (w : World) (hG : Gl w) (ha : a.length = 32) (h0 : ¬ 100 < n) (h : 100 < m) :
    Calls Tryd.prog 6 #[.agg (rowsV a (.slice la n c) (.slice lb m d) (.slice lr k e) (.slice lq j f))] w fun e w' => e = .returned (.bool true) ∧ Below w.heap.size w w' := by
  have hz := zero_dig
  have t1 : ¬ (100 : Int) < (n : Int) := by omega
  have t2 : (100 : Int) < (m : Int) := by omega
  have OA : Hid (DigOk (digA a)) := Lib.hid (DigOk.d a ha)
  have HBA : Hid ((bv a).toArray = digA a) := Lib.hid (by with_unfolding_all rfl)
  have HBL : Hid ((bv a).length = 32) := Lib.hid (by with_unfolding_all (unfold bv; rw [List.length_map, ha]))
  have HRS := Lib.hid (fun w q h => rwS w q a (.slice la n c) (.slice lb m d) (.slice lr k e) (.slice lq j f) ha 51 h)
  have zA := OA.out.sz
  have oA := OA.out.one
  obtain ⟨w1, HW1, hR1, B1⟩ := made_rw w (rowsV a (.slice la n c) (.slice lb m d) (.slice lr k e) (.slice lq j f))
  obtain ⟨RV, HRV⟩ : ∃ RV, rowsV a (.slice la n c) (.slice lb m d) (.slice lr k e) (.slice lq j f) = RV := ⟨_, rfl⟩
  rw [HRV] at HW1 hR1 ⊢
  unfold RwS at HRS
  simp only [HRV] at HRS
  clear HRV
  generalize digA a = DA at *
  generalize bv a = BA at *
  go_enter Tryd.func6, Tryd.ntmps6
  go_upto_region 1 with fail
  rw [HW1.out]
  clear HW1
  have hR1d : w1.drew.heap[w.heap.size]? = some (.cells RV 51 (0, 0)) := hR1
  have B1d := B1.drew
  clear hR1 B1
  refine wp_region_lin (S := (fun w' => w'.rangeAt w.heap.size 0 BA ∧ w'.cell? ⟨w.heap.size, 32, none⟩ = some (.slice la n c) ∧ w'.cell? ⟨w.heap.size, 33, none⟩ = some (.slice lb m d) ∧ w'.cell? ⟨w.heap.size, 34, none⟩ = some (.slice lr k e) ∧ w'.cell? ⟨w.heap.size, 35, none⟩ = some (.slice lq j f))) [(0, true), (1, true), (2, true), (3, true), (4, true), (5, true), (6, true), (7, true), (8, true), (9, true), (10, false), (11, false), (12, true), (13, true), (14, true), (15, true)] (by kernel_rfl) (by kernel_rfl) rfl (by kernel_rfl) ?_ (fun hHeld => ?_)
  · (try dsimp only); exact HRS.out _ _ hR1d
  generalize World.drew w1 = wd at *
  (refine wpL_calm (o := { dst := some 25, op := Go.Op.fieldAddr 51 (Go.Operand.tmp 1) 0, type := 0, pos := "law.go:104", after := #[], guard := none }) (v := ?_) rfl (Or.inl ⟨by rfl, ?_⟩) ?_; rotate_left; (focus (intro w hSw; (try dsimp only at hSw); go_simp; (try (with_reducible rfl)); done)); try simp only [Act.put, List.setIfInBounds_toArray, List.set_cons_zero, List.set_cons_succ])
  refine wpL_calm (o := { dst := some 26, op := Go.Op.load 34 (Go.Operand.tmp 25), type := 34, pos := "law.go:104", after := #[{ on := 0, ground := Go.Ground.data }], guard := none }) rfl (yieldsIf_load_mid (by rfl) _ _ rfl w.heap.size 0 rfl BA _ (fun _ h => h.1) Tryd.underlying34 rfl (by rw [HBL.out]; kernel_rfl)) ?_; rw [HBA.out]
  try simp only [Act.put, List.setIfInBounds_toArray, List.set_cons_zero, List.set_cons_succ]
  (refine wpL_calm (o := { dst := some 27, op := Go.Op.fieldAddr 51 (Go.Operand.tmp 1) 1, type := 0, pos := "law.go:104", after := #[{ on := 11, ground := Go.Ground.gcOnly Go.Departure.lateStores }], guard := none }) (v := ?_) rfl (Or.inl ⟨by rfl, ?_⟩) ?_; rotate_left; (focus (intro w hSw; (try dsimp only at hSw); go_simp; (try (with_reducible rfl)); done)); try simp only [Act.put, List.setIfInBounds_toArray, List.set_cons_zero, List.set_cons_succ])
  (refine wpL_calm (o := { dst := some 28, op := Go.Op.load 25 (Go.Operand.tmp 27), type := 25, pos := "law.go:104", after := #[{ on := 2, ground := Go.Ground.data }, { on := 11, ground := Go.Ground.gcOnly Go.Departure.lateStores }], guard := none }) (v := ?_) rfl (Or.inl ⟨by rfl, ?_⟩) ?_; rotate_left; (focus (intro w hSw; (try dsimp only at hSw); go_simp; (try (with_reducible rfl)); done)); try simp only [Act.put, List.setIfInBounds_toArray, List.set_cons_zero, List.set_cons_succ])
  (refine wpL_calm (o := { dst := some 29, op := Go.Op.fieldAddr 51 (Go.Operand.tmp 1) 2, type := 0, pos := "law.go:104", after := #[{ on := 12, ground := Go.Ground.gcOnly Go.Departure.lateStores }], guard := none }) (v := ?_) rfl (Or.inl ⟨by rfl, ?_⟩) ?_; rotate_left; (focus (intro w hSw; (try dsimp only at hSw); go_simp; (try (with_reducible rfl)); done)); try simp only [Act.put, List.setIfInBounds_toArray, List.set_cons_zero, List.set_cons_succ])
  (refine wpL_calm (o := { dst := some 30, op := Go.Op.load 25 (Go.Operand.tmp 29), type := 25, pos := "law.go:104", after := #[{ on := 4, ground := Go.Ground.data }, { on := 12, ground := Go.Ground.gcOnly Go.Departure.lateStores }], guard := none }) (v := ?_) rfl (Or.inl ⟨by rfl, ?_⟩) ?_; rotate_left; (focus (intro w hSw; (try dsimp only at hSw); go_simp; (try (with_reducible rfl)); done)); try simp only [Act.put, List.setIfInBounds_toArray, List.set_cons_zero, List.set_cons_succ])
  (refine wpL_calm (o := { dst := some 31, op := Go.Op.fieldAddr 51 (Go.Operand.tmp 1) 3, type := 0, pos := "law.go:104", after := #[{ on := 13, ground := Go.Ground.gcOnly Go.Departure.lateStores }], guard := none }) (v := ?_) rfl (Or.inl ⟨by rfl, ?_⟩) ?_; rotate_left; (focus (intro w hSw; (try dsimp only at hSw); go_simp; (try (with_reducible rfl)); done)); try simp only [Act.put, List.setIfInBounds_toArray, List.set_cons_zero, List.set_cons_succ])
  (refine wpL_calm (o := { dst := some 32, op := Go.Op.load 47 (Go.Operand.tmp 31), type := 47, pos := "law.go:104", after := #[{ on := 6, ground := Go.Ground.data }, { on := 13, ground := Go.Ground.gcOnly Go.Departure.lateStores }], guard := none }) (v := ?_) rfl (Or.inl ⟨by rfl, ?_⟩) ?_; rotate_left; (focus (intro w hSw; (try dsimp only at hSw); go_simp; (try (with_reducible rfl)); done)); try simp only [Act.put, List.setIfInBounds_toArray, List.set_cons_zero, List.set_cons_succ])
  (refine wpL_calm (o := { dst := some 33, op := Go.Op.fieldAddr 51 (Go.Operand.tmp 1) 4, type := 0, pos := "law.go:104", after := #[{ on := 14, ground := Go.Ground.gcOnly Go.Departure.lateStores }], guard := none }) (v := ?_) rfl (Or.inl ⟨by rfl, ?_⟩) ?_; rotate_left; (focus (intro w hSw; (try dsimp only at hSw); go_simp; (try (with_reducible rfl)); done)); try simp only [Act.put, List.setIfInBounds_toArray, List.set_cons_zero, List.set_cons_succ])
  (refine wpL_calm (o := { dst := some 34, op := Go.Op.load 47 (Go.Operand.tmp 33), type := 47, pos := "law.go:104", after := #[{ on := 8, ground := Go.Ground.data }, { on := 14, ground := Go.Ground.gcOnly Go.Departure.lateStores }], guard := none }) (v := ?_) rfl (Or.inl ⟨by rfl, ?_⟩) ?_; rotate_left; (focus (intro w hSw; (try dsimp only at hSw); go_simp; (try (with_reducible rfl)); done)); try simp only [Act.put, List.setIfInBounds_toArray, List.set_cons_zero, List.set_cons_succ])
  refine wpL_loud1 (o := { dst := some 3, op := Go.Op.alloc 34, type := 0, pos := "law.go:104", after := #[], guard := none }) rfl (fun K hK => ?_)
  go_simp
  refine hK.out _ _ ?_ (fun hHeld => ?_)
  · (try dsimp only); exact HRS.out _ _ (blk_belowC ((Below.refl _ _).alloc (Nat.le_refl _) _) hR1d)
  clear hK K
  try simp only [Act.put, List.setIfInBounds_toArray, List.set_cons_zero, List.set_cons_succ]
  refine wpL_loud1 (o := { dst := none, op := Go.Op.store 34 (Go.Operand.tmp 3) (Go.Operand.tmp 26), type := 0, pos := "law.go:104", after := #[{ on := 10, ground := Go.Ground.data }, { on := 1, ground := Go.Ground.data }, { on := 0, ground := Go.Ground.phase }, { on := 1, ground := Go.Ground.phase }, { on := 2, ground := Go.Ground.textOnly Go.Departure.lateStores }, { on := 3, ground := Go.Ground.textOnly Go.Departure.lateStores }, { on := 4, ground := Go.Ground.textOnly Go.Departure.lateStores }, { on := 5, ground := Go.Ground.textOnly Go.Departure.lateStores }, { on := 6, ground := Go.Ground.textOnly Go.Departure.lateStores }, { on := 7, ground := Go.Ground.textOnly Go.Departure.lateStores }, { on := 8, ground := Go.Ground.textOnly Go.Departure.lateStores }, { on := 9, ground := Go.Ground.textOnly Go.Departure.lateStores }, { on := 10, ground := Go.Ground.phase }], guard := none }) rfl (fun K hK => ?_)
  (rw [if_pos (by rfl)]; refine wp_store_row _ _ _ rfl wd.heap.size DA rfl rfl 34 _ (heap_alloc_new _ _) (by rw [zA]; kernel_rfl) (by rw [zA, z32_sizeC]) oA ?_)
  refine hK.out _ _ ?_ (fun hHeld => ?_)
  · (try dsimp only); exact HRS.out _ _ ((setRow_other _ _ _ DA (Nat.ne_of_lt (blk_ltC hR1d))).trans (blk_belowC ((Below.refl _ _).alloc (Nat.le_refl _) _) hR1d))
  clear hK K
  try simp only [Act.put, List.setIfInBounds_toArray, List.set_cons_zero, List.set_cons_succ]
  (refine wpL_calm (o := { dst := some 4, op := Go.Op.assign (Go.Operand.tmp 28), type := 25, pos := "law.go:104", after := #[{ on := 3, ground := Go.Ground.data }, { on := 11, ground := Go.Ground.chain }, { on := 0, ground := Go.Ground.phase }, { on := 1, ground := Go.Ground.phase }, { on := 2, ground := Go.Ground.phase }, { on := 3, ground := Go.Ground.phase }, { on := 4, ground := Go.Ground.textOnly Go.Departure.lateStores }, { on := 5, ground := Go.Ground.textOnly Go.Departure.lateStores }, { on := 6, ground := Go.Ground.textOnly Go.Departure.lateStores }, { on := 7, ground := Go.Ground.textOnly Go.Departure.lateStores }, { on := 8, ground := Go.Ground.textOnly Go.Departure.lateStores }, { on := 9, ground := Go.Ground.textOnly Go.Departure.lateStores }, { on := 10, ground := Go.Ground.phase }, { on := 11, ground := Go.Ground.phase }], guard := none }) (v := ?_) rfl (Or.inl ⟨by rfl, ?_⟩) ?_; rotate_left; (focus (intro w hSw; (try dsimp only at hSw); go_simp; (try (with_reducible rfl)); done)); try simp only [Act.put, List.setIfInBounds_toArray, List.set_cons_zero, List.set_cons_succ])
  (refine wpL_calm (o := { dst := some 5, op := Go.Op.assign (Go.Operand.tmp 30), type := 25, pos := "law.go:104", after := #[{ on := 5, ground := Go.Ground.data }, { on := 12, ground := Go.Ground.chain }, { on := 0, ground := Go.Ground.phase }, { on := 1, ground := Go.Ground.phase }, { on := 2, ground := Go.Ground.phase }, { on := 3, ground := Go.Ground.phase }, { on := 4, ground := Go.Ground.phase }, { on := 5, ground := Go.Ground.phase }, { on := 6, ground := Go.Ground.textOnly Go.Departure.lateStores }, { on := 7, ground := Go.Ground.textOnly Go.Departure.lateStores }, { on := 8, ground := Go.Ground.textOnly Go.Departure.lateStores }, { on := 9, ground := Go.Ground.textOnly Go.Departure.lateStores }, { on := 10, ground := Go.Ground.phase }, { on := 11, ground := Go.Ground.phase }, { on := 12, ground := Go.Ground.phase }], guard := none }) (v := ?_) rfl (Or.inl ⟨by rfl, ?_⟩) ?_; rotate_left; (focus (intro w hSw; (try dsimp only at hSw); go_simp; (try (with_reducible rfl)); done)); try simp only [Act.put, List.setIfInBounds_toArray, List.set_cons_zero, List.set_cons_succ])
  (refine wpL_calm (o := { dst := some 6, op := Go.Op.assign (Go.Operand.tmp 32), type := 47, pos := "law.go:104", after := #[{ on := 7, ground := Go.Ground.data }, { on := 13, ground := Go.Ground.chain }, { on := 0, ground := Go.Ground.phase }, { on := 1, ground := Go.Ground.phase }, { on := 2, ground := Go.Ground.phase }, { on := 3, ground := Go.Ground.phase }, { on := 4, ground := Go.Ground.phase }, { on := 5, ground := Go.Ground.phase }, { on := 6, ground := Go.Ground.phase }, { on := 7, ground := Go.Ground.phase }, { on := 8, ground := Go.Ground.textOnly Go.Departure.lateStores }, { on := 9, ground := Go.Ground.textOnly Go.Departure.lateStores }, { on := 10, ground := Go.Ground.phase }, { on := 11, ground := Go.Ground.phase }, { on := 12, ground := Go.Ground.phase }, { on := 13, ground := Go.Ground.phase }], guard := none }) (v := ?_) rfl (Or.inl ⟨by rfl, ?_⟩) ?_; rotate_left; (focus (intro w hSw; (try dsimp only at hSw); go_simp; (try (with_reducible rfl)); done)); try simp only [Act.put, List.setIfInBounds_toArray, List.set_cons_zero, List.set_cons_succ])
  (refine wpL_calm (o := { dst := some 7, op := Go.Op.assign (Go.Operand.tmp 34), type := 47, pos := "law.go:104", after := #[{ on := 9, ground := Go.Ground.data }, { on := 14, ground := Go.Ground.chain }, { on := 0, ground := Go.Ground.phase }, { on := 1, ground := Go.Ground.phase }, { on := 2, ground := Go.Ground.phase }, { on := 3, ground := Go.Ground.phase }, { on := 4, ground := Go.Ground.phase }, { on := 5, ground := Go.Ground.phase }, { on := 6, ground := Go.Ground.phase }, { on := 7, ground := Go.Ground.phase }, { on := 8, ground := Go.Ground.phase }, { on := 9, ground := Go.Ground.phase }, { on := 10, ground := Go.Ground.phase }, { on := 11, ground := Go.Ground.phase }, { on := 12, ground := Go.Ground.phase }, { on := 13, ground := Go.Ground.phase }, { on := 14, ground := Go.Ground.phase }], guard := none }) (v := ?_) rfl (Or.inl ⟨by rfl, ?_⟩) ?_; rotate_left; (focus (intro w hSw; (try dsimp only at hSw); go_simp; (try (with_reducible rfl)); done)); try simp only [Act.put, List.setIfInBounds_toArray, List.set_cons_zero, List.set_cons_succ])
  refine wpL_nil ?_
  refine NoPanic.normal ?_
  obtain ⟨w2, HW2, hd2, b2⟩ := stored_dg wd DA
  rw [HW2.out]
  clear HW2 hHeld
  have B2 := B1d.trans (b2.mono B1d.size)
  have HL3 : Hid (wd.heap.size < w2.heap.size) := Lib.hid (blk_ltC hd2)
  clear b2 B1d hR1d HRS HBA HBL
  generalize wd.heap.size = q3 at *
  go_wp2_with fail
  refine (awake14 _ (hG.below B2)).mono ?_
  rintro e w5 ⟨rfl, b5⟩
  go_wp2_with fail
  go_ret
  exact ⟨rfl, B2.trans (b5.mono B2.size)⟩
set_option maxRecDepth 100000 in
set_option maxHeartbeats 16000000 in
theorem chainApart_short (a : List UInt8) (L M : List ByteArray) (R Q : List (List ByteArray)) (la lb lr lq : Option Addr) (n c m d k e j f : Nat) (w : World) (hG : Gl w) (ha : a.length = 32) (hn : L.length = n) (hc : n ≤ c) (hn1 : n ≤ 100) (hT : TxtAt w la L) (hm : M.length = m) (hd : m ≤ d) (hm1 : m ≤ 100) (hU : TxtAt w lb M) (hr : R.length = k) (hR : RowsAt2 w lr R) (hq : Q.length = j) (hQ : RowsAt2 w lq Q) (hk : 6 < k) :
    Calls Tryd.prog 6 #[.agg (rowsV a (.slice la n c) (.slice lb m d) (.slice lr k e) (.slice lq j f))] w fun e w' => e = .returned (.bool true) ∧ Below w.heap.size w w' := by
  have hz := zero_dig
  have hgf := hG.sf
  have hgk := hG.sk
  have t1 : ¬ (100 : Int) < (n : Int) := by omega
  have t2 : ¬ (100 : Int) < (m : Int) := by omega
  have t3 : (6 : Int) < (k : Int) := by omega
  have HNX : Hid (∀ wc o X, Below w.heap.size w wc → OrX w.heap.size wc o X → FewX X 100 → Calls Tryd.prog 20 #[.pointer o, .agg (digA a), .slice la n c] wc fun e w' => ∃ X', e = .returned (.tuple #[.agg (nextD a L), .int .i64 (erB L)]) ∧ OrX w.heap.size w' o X' ∧ SumsX X X' (if okB L = true then [nextT a L] else []) ∧ Below w.heap.size wc w' ∧ KeptX wc w' X X') := Lib.hid (fun wc o X hb hX hF => next_u w.heap.size o X a L la n c wc (hG.below hb) hgf hgk hX (hF.mono (by omega)) ha hn hc (by omega) (hT.b hb hX))
  have HNY : Hid (∀ wc o X, Below w.heap.size w wc → OrX w.heap.size wc o X → FewX X 100 → Calls Tryd.prog 20 #[.pointer o, .agg (digA a), .slice lb m d] wc fun e w' => ∃ X', e = .returned (.tuple #[.agg (nextD a M), .int .i64 (erB M)]) ∧ OrX w.heap.size w' o X' ∧ SumsX X X' (if okB M = true then [nextT a M] else []) ∧ Below w.heap.size wc w' ∧ KeptX wc w' X X') := Lib.hid (fun wc o X hb hX hF => next_u w.heap.size o X a M lb m d wc (hG.below hb) hgf hgk hX (hF.mono (by omega)) ha hm hd (by omega) (hU.b hb hX))
  have HSM : Hid (∀ wc, Below w.heap.size w wc → Calls Tryd.prog 23 #[.slice la n c, .slice lb m d] wc fun e w' => e = .returned (.bool (decide (L = M))) ∧ Below wc.heap.size wc w') := Lib.hid (fun wc hb => same_any L M la lb n c m d wc hn hm (by omega) (by omega) (hT.below hb) (hU.below hb))
  have HB0 : Hid (okB L = true → erB L = 0) := Lib.hid (fun h => by unfold erB; rw [h]; rfl)
  have HB6 : Hid (okB L = false → erB L = 6) := Lib.hid (fun h => by unfold erB; rw [h]; rfl)
  have HE0 : Hid (okB M = true → erB M = 0) := Lib.hid (fun h => by unfold erB; rw [h]; rfl)
  have HE6 : Hid (okB M = false → erB M = 6) := Lib.hid (fun h => by unfold erB; rw [h]; rfl)
  have HQ : Hid (okB L = true → okB M = true → ∀ w, (binOp .eql 34 (.agg (nextD a L)) (.agg (nextD a M))).run Tryd.prog w = .ok (.bool (nextL a L == nextL a M)) w) := Lib.hid (fun h1 h2 => by rw [nextD_yes a L h1, nextD_yes a M h2]; exact eql_dig2 _ _ (nextL_len _ _) (nextL_len _ _))
  have HC1 : Hid (okB L = true → okB M = true → nextL a L = nextL a M → L ≠ M → ∃ s t : List UInt8, s ∈ (if okB L = true then [nextT a L] else []) ∧ t ∈ (if okB M = true then [nextT a M] else []) ∧ s ≠ t ∧ sumL s = sumL t) := Lib.hid (fun h1 h2 h3 h4 => by
    obtain ⟨q1, q2⟩ := next_apart a ha L M h1 h2 h4 h3
    rw [if_pos h1, if_pos h2]
    exact ⟨_, _, List.mem_singleton.2 rfl, List.mem_singleton.2 rfl, q1, q2⟩)
  have HT1 : Hid ((if okB L = true then [nextT a L] else []).length ≤ 1) := Lib.hid (by split <;> simp)
  have HT2 : Hid ((if okB M = true then [nextT a M] else []).length ≤ 1) := Lib.hid (by split <;> simp)
  have OB : Hid (DigOk (nextD a L)) := Lib.hid (DigOk.next a L)
  have OE : Hid (DigOk (nextD a M)) := Lib.hid (DigOk.next a M)
  clear hn hc hn1 hT hm hd hm1 hU hr hR hq hQ
  have zB := OB.out.sz
  have oB := OB.out.one
  have zE := OE.out.sz
  have oE := OE.out.one
  generalize nextD a L = BD at *
  generalize nextD a M = BE at *
  generalize (if okB L = true then [nextT a L] else []) = T1 at *
  generalize (if okB M = true then [nextT a M] else []) = T2 at *
  generalize erB L = bl at *
  generalize erB M = bm at *
  generalize nextL a L = nL at *
  generalize nextL a M = nM at *
  have OA : Hid (DigOk (digA a)) := Lib.hid (DigOk.d a ha)
  have HBA : Hid ((bv a).toArray = digA a) := Lib.hid (by with_unfolding_all rfl)
  have HBL : Hid ((bv a).length = 32) := Lib.hid (by with_unfolding_all (unfold bv; rw [List.length_map, ha]))
  have HRS := Lib.hid (fun w q h => rwS w q a (.slice la n c) (.slice lb m d) (.slice lr k e) (.slice lq j f) ha 51 h)
  have zA := OA.out.sz
  have oA := OA.out.one
  obtain ⟨w1, HW1, hR1, B1⟩ := made_rw w (rowsV a (.slice la n c) (.slice lb m d) (.slice lr k e) (.slice lq j f))
  obtain ⟨RV, HRV⟩ : ∃ RV, rowsV a (.slice la n c) (.slice lb m d) (.slice lr k e) (.slice lq j f) = RV := ⟨_, rfl⟩
  rw [HRV] at HW1 hR1 ⊢
  unfold RwS at HRS
  simp only [HRV] at HRS
  clear HRV
  generalize digA a = DA at *
  generalize bv a = BA at *
  go_enter Tryd.func6, Tryd.ntmps6
  go_upto_region 1 with fail
  rw [HW1.out]
  clear HW1
  have hR1d : w1.drew.heap[w.heap.size]? = some (.cells RV 51 (0, 0)) := hR1
  have B1d := B1.drew
  clear hR1 B1
  refine wp_region_lin (S := (fun w' => w'.rangeAt w.heap.size 0 BA ∧ w'.cell? ⟨w.heap.size, 32, none⟩ = some (.slice la n c) ∧ w'.cell? ⟨w.heap.size, 33, none⟩ = some (.slice lb m d) ∧ w'.cell? ⟨w.heap.size, 34, none⟩ = some (.slice lr k e) ∧ w'.cell? ⟨w.heap.size, 35, none⟩ = some (.slice lq j f))) [(0, true), (1, true), (2, true), (3, true), (4, true), (5, true), (6, true), (7, true), (8, true), (9, true), (10, false), (11, false), (12, true), (13, true), (14, true), (15, true)] (by kernel_rfl) (by kernel_rfl) rfl (by kernel_rfl) ?_ (fun hHeld => ?_)
  · (try dsimp only); exact HRS.out _ _ hR1d
  generalize World.drew w1 = wd at *
  (refine wpL_calm (o := { dst := some 25, op := Go.Op.fieldAddr 51 (Go.Operand.tmp 1) 0, type := 0, pos := "law.go:104", after := #[], guard := none }) (v := ?_) rfl (Or.inl ⟨by rfl, ?_⟩) ?_; rotate_left; (focus (intro w hSw; (try dsimp only at hSw); go_simp; (try (with_reducible rfl)); done)); try simp only [Act.put, List.setIfInBounds_toArray, List.set_cons_zero, List.set_cons_succ])
  refine wpL_calm (o := { dst := some 26, op := Go.Op.load 34 (Go.Operand.tmp 25), type := 34, pos := "law.go:104", after := #[{ on := 0, ground := Go.Ground.data }], guard := none }) rfl (yieldsIf_load_mid (by rfl) _ _ rfl w.heap.size 0 rfl BA _ (fun _ h => h.1) Tryd.underlying34 rfl (by rw [HBL.out]; kernel_rfl)) ?_; rw [HBA.out]
  try simp only [Act.put, List.setIfInBounds_toArray, List.set_cons_zero, List.set_cons_succ]
  (refine wpL_calm (o := { dst := some 27, op := Go.Op.fieldAddr 51 (Go.Operand.tmp 1) 1, type := 0, pos := "law.go:104", after := #[{ on := 11, ground := Go.Ground.gcOnly Go.Departure.lateStores }], guard := none }) (v := ?_) rfl (Or.inl ⟨by rfl, ?_⟩) ?_; rotate_left; (focus (intro w hSw; (try dsimp only at hSw); go_simp; (try (with_reducible rfl)); done)); try simp only [Act.put, List.setIfInBounds_toArray, List.set_cons_zero, List.set_cons_succ])
  (refine wpL_calm (o := { dst := some 28, op := Go.Op.load 25 (Go.Operand.tmp 27), type := 25, pos := "law.go:104", after := #[{ on := 2, ground := Go.Ground.data }, { on := 11, ground := Go.Ground.gcOnly Go.Departure.lateStores }], guard := none }) (v := ?_) rfl (Or.inl ⟨by rfl, ?_⟩) ?_; rotate_left; (focus (intro w hSw; (try dsimp only at hSw); go_simp; (try (with_reducible rfl)); done)); try simp only [Act.put, List.setIfInBounds_toArray, List.set_cons_zero, List.set_cons_succ])
  (refine wpL_calm (o := { dst := some 29, op := Go.Op.fieldAddr 51 (Go.Operand.tmp 1) 2, type := 0, pos := "law.go:104", after := #[{ on := 12, ground := Go.Ground.gcOnly Go.Departure.lateStores }], guard := none }) (v := ?_) rfl (Or.inl ⟨by rfl, ?_⟩) ?_; rotate_left; (focus (intro w hSw; (try dsimp only at hSw); go_simp; (try (with_reducible rfl)); done)); try simp only [Act.put, List.setIfInBounds_toArray, List.set_cons_zero, List.set_cons_succ])
  (refine wpL_calm (o := { dst := some 30, op := Go.Op.load 25 (Go.Operand.tmp 29), type := 25, pos := "law.go:104", after := #[{ on := 4, ground := Go.Ground.data }, { on := 12, ground := Go.Ground.gcOnly Go.Departure.lateStores }], guard := none }) (v := ?_) rfl (Or.inl ⟨by rfl, ?_⟩) ?_; rotate_left; (focus (intro w hSw; (try dsimp only at hSw); go_simp; (try (with_reducible rfl)); done)); try simp only [Act.put, List.setIfInBounds_toArray, List.set_cons_zero, List.set_cons_succ])
  (refine wpL_calm (o := { dst := some 31, op := Go.Op.fieldAddr 51 (Go.Operand.tmp 1) 3, type := 0, pos := "law.go:104", after := #[{ on := 13, ground := Go.Ground.gcOnly Go.Departure.lateStores }], guard := none }) (v := ?_) rfl (Or.inl ⟨by rfl, ?_⟩) ?_; rotate_left; (focus (intro w hSw; (try dsimp only at hSw); go_simp; (try (with_reducible rfl)); done)); try simp only [Act.put, List.setIfInBounds_toArray, List.set_cons_zero, List.set_cons_succ])
  (refine wpL_calm (o := { dst := some 32, op := Go.Op.load 47 (Go.Operand.tmp 31), type := 47, pos := "law.go:104", after := #[{ on := 6, ground := Go.Ground.data }, { on := 13, ground := Go.Ground.gcOnly Go.Departure.lateStores }], guard := none }) (v := ?_) rfl (Or.inl ⟨by rfl, ?_⟩) ?_; rotate_left; (focus (intro w hSw; (try dsimp only at hSw); go_simp; (try (with_reducible rfl)); done)); try simp only [Act.put, List.setIfInBounds_toArray, List.set_cons_zero, List.set_cons_succ])
  (refine wpL_calm (o := { dst := some 33, op := Go.Op.fieldAddr 51 (Go.Operand.tmp 1) 4, type := 0, pos := "law.go:104", after := #[{ on := 14, ground := Go.Ground.gcOnly Go.Departure.lateStores }], guard := none }) (v := ?_) rfl (Or.inl ⟨by rfl, ?_⟩) ?_; rotate_left; (focus (intro w hSw; (try dsimp only at hSw); go_simp; (try (with_reducible rfl)); done)); try simp only [Act.put, List.setIfInBounds_toArray, List.set_cons_zero, List.set_cons_succ])
  (refine wpL_calm (o := { dst := some 34, op := Go.Op.load 47 (Go.Operand.tmp 33), type := 47, pos := "law.go:104", after := #[{ on := 8, ground := Go.Ground.data }, { on := 14, ground := Go.Ground.gcOnly Go.Departure.lateStores }], guard := none }) (v := ?_) rfl (Or.inl ⟨by rfl, ?_⟩) ?_; rotate_left; (focus (intro w hSw; (try dsimp only at hSw); go_simp; (try (with_reducible rfl)); done)); try simp only [Act.put, List.setIfInBounds_toArray, List.set_cons_zero, List.set_cons_succ])
  refine wpL_loud1 (o := { dst := some 3, op := Go.Op.alloc 34, type := 0, pos := "law.go:104", after := #[], guard := none }) rfl (fun K hK => ?_)
  go_simp
  refine hK.out _ _ ?_ (fun hHeld => ?_)
  · (try dsimp only); exact HRS.out _ _ (blk_belowC ((Below.refl _ _).alloc (Nat.le_refl _) _) hR1d)
  clear hK K
  try simp only [Act.put, List.setIfInBounds_toArray, List.set_cons_zero, List.set_cons_succ]
  refine wpL_loud1 (o := { dst := none, op := Go.Op.store 34 (Go.Operand.tmp 3) (Go.Operand.tmp 26), type := 0, pos := "law.go:104", after := #[{ on := 10, ground := Go.Ground.data }, { on := 1, ground := Go.Ground.data }, { on := 0, ground := Go.Ground.phase }, { on := 1, ground := Go.Ground.phase }, { on := 2, ground := Go.Ground.textOnly Go.Departure.lateStores }, { on := 3, ground := Go.Ground.textOnly Go.Departure.lateStores }, { on := 4, ground := Go.Ground.textOnly Go.Departure.lateStores }, { on := 5, ground := Go.Ground.textOnly Go.Departure.lateStores }, { on := 6, ground := Go.Ground.textOnly Go.Departure.lateStores }, { on := 7, ground := Go.Ground.textOnly Go.Departure.lateStores }, { on := 8, ground := Go.Ground.textOnly Go.Departure.lateStores }, { on := 9, ground := Go.Ground.textOnly Go.Departure.lateStores }, { on := 10, ground := Go.Ground.phase }], guard := none }) rfl (fun K hK => ?_)
  (rw [if_pos (by rfl)]; refine wp_store_row _ _ _ rfl wd.heap.size DA rfl rfl 34 _ (heap_alloc_new _ _) (by rw [zA]; kernel_rfl) (by rw [zA, z32_sizeC]) oA ?_)
  refine hK.out _ _ ?_ (fun hHeld => ?_)
  · (try dsimp only); exact HRS.out _ _ ((setRow_other _ _ _ DA (Nat.ne_of_lt (blk_ltC hR1d))).trans (blk_belowC ((Below.refl _ _).alloc (Nat.le_refl _) _) hR1d))
  clear hK K
  try simp only [Act.put, List.setIfInBounds_toArray, List.set_cons_zero, List.set_cons_succ]
  (refine wpL_calm (o := { dst := some 4, op := Go.Op.assign (Go.Operand.tmp 28), type := 25, pos := "law.go:104", after := #[{ on := 3, ground := Go.Ground.data }, { on := 11, ground := Go.Ground.chain }, { on := 0, ground := Go.Ground.phase }, { on := 1, ground := Go.Ground.phase }, { on := 2, ground := Go.Ground.phase }, { on := 3, ground := Go.Ground.phase }, { on := 4, ground := Go.Ground.textOnly Go.Departure.lateStores }, { on := 5, ground := Go.Ground.textOnly Go.Departure.lateStores }, { on := 6, ground := Go.Ground.textOnly Go.Departure.lateStores }, { on := 7, ground := Go.Ground.textOnly Go.Departure.lateStores }, { on := 8, ground := Go.Ground.textOnly Go.Departure.lateStores }, { on := 9, ground := Go.Ground.textOnly Go.Departure.lateStores }, { on := 10, ground := Go.Ground.phase }, { on := 11, ground := Go.Ground.phase }], guard := none }) (v := ?_) rfl (Or.inl ⟨by rfl, ?_⟩) ?_; rotate_left; (focus (intro w hSw; (try dsimp only at hSw); go_simp; (try (with_reducible rfl)); done)); try simp only [Act.put, List.setIfInBounds_toArray, List.set_cons_zero, List.set_cons_succ])
  (refine wpL_calm (o := { dst := some 5, op := Go.Op.assign (Go.Operand.tmp 30), type := 25, pos := "law.go:104", after := #[{ on := 5, ground := Go.Ground.data }, { on := 12, ground := Go.Ground.chain }, { on := 0, ground := Go.Ground.phase }, { on := 1, ground := Go.Ground.phase }, { on := 2, ground := Go.Ground.phase }, { on := 3, ground := Go.Ground.phase }, { on := 4, ground := Go.Ground.phase }, { on := 5, ground := Go.Ground.phase }, { on := 6, ground := Go.Ground.textOnly Go.Departure.lateStores }, { on := 7, ground := Go.Ground.textOnly Go.Departure.lateStores }, { on := 8, ground := Go.Ground.textOnly Go.Departure.lateStores }, { on := 9, ground := Go.Ground.textOnly Go.Departure.lateStores }, { on := 10, ground := Go.Ground.phase }, { on := 11, ground := Go.Ground.phase }, { on := 12, ground := Go.Ground.phase }], guard := none }) (v := ?_) rfl (Or.inl ⟨by rfl, ?_⟩) ?_; rotate_left; (focus (intro w hSw; (try dsimp only at hSw); go_simp; (try (with_reducible rfl)); done)); try simp only [Act.put, List.setIfInBounds_toArray, List.set_cons_zero, List.set_cons_succ])
  (refine wpL_calm (o := { dst := some 6, op := Go.Op.assign (Go.Operand.tmp 32), type := 47, pos := "law.go:104", after := #[{ on := 7, ground := Go.Ground.data }, { on := 13, ground := Go.Ground.chain }, { on := 0, ground := Go.Ground.phase }, { on := 1, ground := Go.Ground.phase }, { on := 2, ground := Go.Ground.phase }, { on := 3, ground := Go.Ground.phase }, { on := 4, ground := Go.Ground.phase }, { on := 5, ground := Go.Ground.phase }, { on := 6, ground := Go.Ground.phase }, { on := 7, ground := Go.Ground.phase }, { on := 8, ground := Go.Ground.textOnly Go.Departure.lateStores }, { on := 9, ground := Go.Ground.textOnly Go.Departure.lateStores }, { on := 10, ground := Go.Ground.phase }, { on := 11, ground := Go.Ground.phase }, { on := 12, ground := Go.Ground.phase }, { on := 13, ground := Go.Ground.phase }], guard := none }) (v := ?_) rfl (Or.inl ⟨by rfl, ?_⟩) ?_; rotate_left; (focus (intro w hSw; (try dsimp only at hSw); go_simp; (try (with_reducible rfl)); done)); try simp only [Act.put, List.setIfInBounds_toArray, List.set_cons_zero, List.set_cons_succ])
  (refine wpL_calm (o := { dst := some 7, op := Go.Op.assign (Go.Operand.tmp 34), type := 47, pos := "law.go:104", after := #[{ on := 9, ground := Go.Ground.data }, { on := 14, ground := Go.Ground.chain }, { on := 0, ground := Go.Ground.phase }, { on := 1, ground := Go.Ground.phase }, { on := 2, ground := Go.Ground.phase }, { on := 3, ground := Go.Ground.phase }, { on := 4, ground := Go.Ground.phase }, { on := 5, ground := Go.Ground.phase }, { on := 6, ground := Go.Ground.phase }, { on := 7, ground := Go.Ground.phase }, { on := 8, ground := Go.Ground.phase }, { on := 9, ground := Go.Ground.phase }, { on := 10, ground := Go.Ground.phase }, { on := 11, ground := Go.Ground.phase }, { on := 12, ground := Go.Ground.phase }, { on := 13, ground := Go.Ground.phase }, { on := 14, ground := Go.Ground.phase }], guard := none }) (v := ?_) rfl (Or.inl ⟨by rfl, ?_⟩) ?_; rotate_left; (focus (intro w hSw; (try dsimp only at hSw); go_simp; (try (with_reducible rfl)); done)); try simp only [Act.put, List.setIfInBounds_toArray, List.set_cons_zero, List.set_cons_succ])
  refine wpL_nil ?_
  refine NoPanic.normal ?_
  obtain ⟨w2, HW2, hd2, b2⟩ := stored_dg wd DA
  rw [HW2.out]
  clear HW2 hHeld
  have B2 := B1d.trans (b2.mono B1d.size)
  have HL3 : Hid (wd.heap.size < w2.heap.size) := Lib.hid (blk_ltC hd2)
  clear b2 B1d hR1d HRS HBA HBL
  generalize wd.heap.size = q3 at *
  clear ha
  go_wp2_with fail
  refine (new_x w2.heap.size w2 (Nat.le_refl _)).mono ?_
  rintro e w3 ⟨rfl, hX3, b3⟩
  obtain ⟨X0, S0, eX0, e0, l0, few0⟩ : ∃ X0 S0, (some ⟨w2.heap.size + 1, [], .slice none 0 0, .slice none 0 0, w2.heap.size, .map []⟩ : Option OrS) = X0 ∧ X0 = some S0 ∧ S0.l = [] ∧ FewX X0 0 := ⟨_, _, rfl, rfl, rfl, FewX.zero w2 _ _ _ _ _⟩
  rw [eX0] at hX3
  clear eX0
  have hf3 := hX3.freeLow q3 HL3.out
  have hX3' := hX3.weak B2.size
  have hd3 := blk_belowC b3 hd2
  have B3 := B2.trans (b3.mono B2.size)
  clear hX3 b3 hd2 B2
  generalize (⟨w2.heap.size + 1, 0, none⟩ : Addr) = og at *
  have l3 := OA.out.ld _ _ hd3
  go_wp2_with ((with_reducible refine wpList_load_arr_i (g := q3) (cs := DA) 34 _ rfl ?_ ?_ ?_); exact ⟨rfl, rfl⟩; assumption)
  refine (HNX.out _ _ X0 B3 hX3' (few0.mono (by omega))).mono ?_
  rintro e w4 ⟨X4, rfl, hX4, hS4, b4, K4⟩
  have hd4 := K4.keep _ _ hd3 hf3
  have hf4 := K4.free _ (blk_ltC hd3) hf3
  have B4 := B3.trans b4
  have few4 : FewX X4 1 := (hS4.few few0).mono (by have := HT1.out; omega)
  have HS4 := Lib.hid hS4
  clear hS4 b4 K4 hX3' hd3 hf3 B3 HNX l3
  obtain ⟨w5, HW_, hq9, b_⟩ := stored_dg w4 BD
  go_upto_region 6 with (refine wpList_store_row rfl _ _ _ rfl w4.heap.size BD rfl rfl 34 _ (heap_alloc_new _ _) (by rw [zB]; kernel_rfl) (by rw [zB, z32_sizeC]) oB ?_)
  rw [HW_.out]
  clear HW_
  have hd5 := blk_belowC b_ hd4
  have hX5 := hX4.below b_
  have hf59 := hX4.free _ (Nat.le_refl _)
  have B5 := B4.trans (b_.mono B4.size)
  clear b_ hd4 hX4 B4
  generalize w4.heap.size = q9 at *
  have l3 := OA.out.ld _ _ hd5
  go_wp2_with ((with_reducible refine wpList_load_arr_i (g := q3) (cs := DA) 34 _ rfl ?_ ?_ ?_); exact ⟨rfl, rfl⟩; assumption)
  refine (HNY.out _ _ X4 B5 hX5 (few4.mono (by omega))).mono ?_
  rintro e w6 ⟨X6, rfl, hX6, hS6, b6, K6⟩
  have hd6 := K6.keep _ _ hd5 hf4
  have hf6 := K6.free _ (blk_ltC hd5) hf4
  have hq96 := K6.keep _ _ hq9 hf59
  have B6 := B5.trans b6
  have few6 : FewX X6 2 := (hS6.few few4).mono (by have := HT2.out; omega)
  have HS6 := Lib.hid hS6
  clear hS6 b6 K6 hX5 hd5 hf4 hf59 hq9 B5 HNY l3 few4
  obtain ⟨w7, HW_, hq11, b_⟩ := stored_dg w6 BE
  go_upto_region 7 with (refine wpList_store_row rfl _ _ _ rfl w6.heap.size BE rfl rfl 34 _ (heap_alloc_new _ _) (by rw [zE]; kernel_rfl) (by rw [zE, z32_sizeC]) oE ?_)
  rw [HW_.out]
  clear HW_
  have hd7 := blk_belowC b_ hd6
  have hX7 := hX6.below b_
  have hq97 := blk_belowC b_ hq96
  have B7 := B6.trans (b_.mono B6.size)
  clear b_ hd6 hX6 hq96 B6
  generalize w6.heap.size = q11 at *
  go_cut [75] from 59 (fun s75 wx => ∃ cc, s75 = .bool cc ∧ Hid (cc = true → ∃ s t : List UInt8, s ∈ T1 ∧ t ∈ T2 ∧ s ≠ t ∧ sumL s = sumL t) ∧ Hid (Below w7.heap.size w7 wx))
  case first =>
    have lB := OB.out.ld _ _ hq97
    have lE := OE.out.ld _ _ hq11
    clear HL3 hd7 hf6
    cases e1 : okB L with
    | false =>
      obtain rfl := HB6.out e1
      clear lB lE
      go_wp2_with fail
      go_meet
      exact ⟨false, rfl, Lib.hid (fun h => by cases h), Lib.hid (Below.refl _ _)⟩
    | true =>
      obtain rfl := HB0.out e1
      cases e2 : okB M with
      | false =>
        obtain rfl := HE6.out e2
        clear lB lE
        go_wp2_with fail
        go_meet
        exact ⟨false, rfl, Lib.hid (fun h => by cases h), Lib.hid (Below.refl _ _)⟩
      | true =>
        obtain rfl := HE0.out e2
        have heq := HQ.out e1 e2
        by_cases e3 : nL = nM
        · rw [show (nL == nM) = true from by simpa using e3] at heq
          by_cases e4 : L = M
          · have HSY : Hid (∀ wc, Below w.heap.size w wc → Calls Tryd.prog 23 #[.slice la n c, .slice lb m d] wc fun e w' => e = .returned (.bool true) ∧ Below wc.heap.size wc w') := Lib.hid (fun wc hb => by have := HSM.out wc hb; rw [decide_eq_true e4] at this; exact this)
            clear HSM HC1
            go_wp2_with (first | ((with_reducible refine wpList_load_arr_i (g := q9) (cs := BD) 34 _ rfl ?_ ?_ ?_); exact ⟨rfl, rfl⟩; assumption) | ((with_reducible refine wpList_load_arr_i (g := q11) (cs := BE) 34 _ rfl ?_ ?_ ?_); exact ⟨rfl, rfl⟩; assumption))
            refine (HSY.out _ B7).mono ?_
            rintro e w8 ⟨rfl, b8⟩
            go_wp2_with fail
            go_meet
            exact ⟨false, rfl, Lib.hid (fun h => by cases h), Lib.hid b8⟩
          · have HSY : Hid (∀ wc, Below w.heap.size w wc → Calls Tryd.prog 23 #[.slice la n c, .slice lb m d] wc fun e w' => e = .returned (.bool false) ∧ Below wc.heap.size wc w') := Lib.hid (fun wc hb => by have := HSM.out wc hb; rw [decide_eq_false e4] at this; exact this)
            have HCX := Lib.hid (HC1.out e1 e2 e3 e4)
            clear HSM HC1
            go_wp2_with (first | ((with_reducible refine wpList_load_arr_i (g := q9) (cs := BD) 34 _ rfl ?_ ?_ ?_); exact ⟨rfl, rfl⟩; assumption) | ((with_reducible refine wpList_load_arr_i (g := q11) (cs := BE) 34 _ rfl ?_ ?_ ?_); exact ⟨rfl, rfl⟩; assumption))
            refine (HSY.out _ B7).mono ?_
            rintro e w8 ⟨rfl, b8⟩
            go_wp2_with fail
            go_meet
            exact ⟨true, rfl, Lib.hid (fun _ => HCX.out), Lib.hid b8⟩
        · rw [show (nL == nM) = false from by simpa using e3] at heq
          go_wp2_with (first | ((with_reducible refine wpList_load_arr_i (g := q9) (cs := BD) 34 _ rfl ?_ ?_ ?_); exact ⟨rfl, rfl⟩; assumption) | ((with_reducible refine wpList_load_arr_i (g := q11) (cs := BE) 34 _ rfl ?_ ?_ ?_); exact ⟨rfl, rfl⟩; assumption))
          go_meet
          exact ⟨false, rfl, Lib.hid (fun h => by cases h), Lib.hid (Below.refl _ _)⟩
  case rest =>
    obtain ⟨cc, rfl, HCC, HBX⟩ := hcut
    have hd8 := Lib.hid (blk_belowC HBX.out hd7)
    have hX8 := Lib.hid (hX7.below HBX.out)
    have B8 := Lib.hid (B7.trans (HBX.out.mono B7.size))
    clear hd7 hX7 B7 hq97 hq11 HB0 HB6 HE0 HE6 HQ HC1 HSM OB OE HBX
    generalize wc = wa at *
    go_upto_if 75 with fail
    go_cut [13, 14, 15] from 59 (fun s13 s14 s15 wx => Hid (Below wa.heap.size wa wx))
    case first =>
      cases cc with
      | false =>
        go_wp2_with fail
        go_meet
        exact Lib.hid (Below.refl _ _)
      | true =>
        obtain ⟨s, t, hs1, ht1, hne, hst⟩ := HCC.out rfl
        obtain ⟨S6, e6, ea, hP⟩ := hX8.out.some
        obtain ⟨S4, e4', _, m4, _⟩ := HS4.out.so S0 e0
        obtain ⟨S6', e6', _, m6, _⟩ := HS6.out.so S4 e4'
        rw [e6] at e6'
        cases e6'
        have HCO := Lib.hid (collide_told w.heap.size S6.g S6.l S6.tv S6.sv S6.b S6.D wa hP (by have := few6 S6 e6; omega) s t ((m6 s).2 (Or.inl ((m4 s).2 (Or.inr hs1)))) ((m6 t).2 (Or.inr ht1)) hne hst)
        rw [← ea] at HCO
        clear hP e6 ea m4 m6 hs1 ht1 hne hst HCC
        go_wp2_with fail
        refine HCO.out.mono ?_
        rintro e w9 ⟨s', t', rfl, b9⟩
        go_wp2_with fail
        go_meet
        exact Lib.hid b9
    case rest =>
    have BX := hcut.out
    have hd8 := blk_belowC BX hd8.out
    have hX8 := hX8.out.below BX
    have B8 := B8.out.trans (BX.mono B8.out.size)
    clear hcut BX HCC
    go_wp2_with fail
    refine (awake14 _ (hG.below B8)).mono ?_
    rintro e w9 ⟨rfl, b9⟩
    go_wp2_with fail
    go_ret
    exact ⟨rfl, B8.trans (b9.mono B8.size)⟩
set_option maxRecDepth 100000 in
set_option maxHeartbeats 16000000 in
theorem chainApart_short2 (a : List UInt8) (L M : List ByteArray) (R Q : List (List ByteArray)) (la lb lr lq : Option Addr) (n c m d k e j f : Nat) (w : World) (hG : Gl w) (ha : a.length = 32) (hn : L.length = n) (hc : n ≤ c) (hn1 : n ≤ 100) (hT : TxtAt w la L) (hm : M.length = m) (hd : m ≤ d) (hm1 : m ≤ 100) (hU : TxtAt w lb M) (hr : R.length = k) (hR : RowsAt2 w lr R) (hq : Q.length = j) (hQ : RowsAt2 w lq Q) (hk : k ≤ 6) (hkj : k ≠ j) :
    Calls Tryd.prog 6 #[.agg (rowsV a (.slice la n c) (.slice lb m d) (.slice lr k e) (.slice lq j f))] w fun e w' => e = .returned (.bool true) ∧ Below w.heap.size w w' := by
  have hz := zero_dig
  have hgf := hG.sf
  have hgk := hG.sk
  have t1 : ¬ (100 : Int) < (n : Int) := by omega
  have t2 : ¬ (100 : Int) < (m : Int) := by omega
  have t3 : ¬ (6 : Int) < (k : Int) := by omega
  have t4 : ((k : Int) != (j : Int)) = true := by rw [bne_iff_ne]; omega
  have HNX : Hid (∀ wc o X, Below w.heap.size w wc → OrX w.heap.size wc o X → FewX X 100 → Calls Tryd.prog 20 #[.pointer o, .agg (digA a), .slice la n c] wc fun e w' => ∃ X', e = .returned (.tuple #[.agg (nextD a L), .int .i64 (erB L)]) ∧ OrX w.heap.size w' o X' ∧ SumsX X X' (if okB L = true then [nextT a L] else []) ∧ Below w.heap.size wc w' ∧ KeptX wc w' X X') := Lib.hid (fun wc o X hb hX hF => next_u w.heap.size o X a L la n c wc (hG.below hb) hgf hgk hX (hF.mono (by omega)) ha hn hc (by omega) (hT.b hb hX))
  have HNY : Hid (∀ wc o X, Below w.heap.size w wc → OrX w.heap.size wc o X → FewX X 100 → Calls Tryd.prog 20 #[.pointer o, .agg (digA a), .slice lb m d] wc fun e w' => ∃ X', e = .returned (.tuple #[.agg (nextD a M), .int .i64 (erB M)]) ∧ OrX w.heap.size w' o X' ∧ SumsX X X' (if okB M = true then [nextT a M] else []) ∧ Below w.heap.size wc w' ∧ KeptX wc w' X X') := Lib.hid (fun wc o X hb hX hF => next_u w.heap.size o X a M lb m d wc (hG.below hb) hgf hgk hX (hF.mono (by omega)) ha hm hd (by omega) (hU.b hb hX))
  have HSM : Hid (∀ wc, Below w.heap.size w wc → Calls Tryd.prog 23 #[.slice la n c, .slice lb m d] wc fun e w' => e = .returned (.bool (decide (L = M))) ∧ Below wc.heap.size wc w') := Lib.hid (fun wc hb => same_any L M la lb n c m d wc hn hm (by omega) (by omega) (hT.below hb) (hU.below hb))
  have HB0 : Hid (okB L = true → erB L = 0) := Lib.hid (fun h => by unfold erB; rw [h]; rfl)
  have HB6 : Hid (okB L = false → erB L = 6) := Lib.hid (fun h => by unfold erB; rw [h]; rfl)
  have HE0 : Hid (okB M = true → erB M = 0) := Lib.hid (fun h => by unfold erB; rw [h]; rfl)
  have HE6 : Hid (okB M = false → erB M = 6) := Lib.hid (fun h => by unfold erB; rw [h]; rfl)
  have HQ : Hid (okB L = true → okB M = true → ∀ w, (binOp .eql 34 (.agg (nextD a L)) (.agg (nextD a M))).run Tryd.prog w = .ok (.bool (nextL a L == nextL a M)) w) := Lib.hid (fun h1 h2 => by rw [nextD_yes a L h1, nextD_yes a M h2]; exact eql_dig2 _ _ (nextL_len _ _) (nextL_len _ _))
  have HC1 : Hid (okB L = true → okB M = true → nextL a L = nextL a M → L ≠ M → ∃ s t : List UInt8, s ∈ (if okB L = true then [nextT a L] else []) ∧ t ∈ (if okB M = true then [nextT a M] else []) ∧ s ≠ t ∧ sumL s = sumL t) := Lib.hid (fun h1 h2 h3 h4 => by
    obtain ⟨q1, q2⟩ := next_apart a ha L M h1 h2 h4 h3
    rw [if_pos h1, if_pos h2]
    exact ⟨_, _, List.mem_singleton.2 rfl, List.mem_singleton.2 rfl, q1, q2⟩)
  have HT1 : Hid ((if okB L = true then [nextT a L] else []).length ≤ 1) := Lib.hid (by split <;> simp)
  have HT2 : Hid ((if okB M = true then [nextT a M] else []).length ≤ 1) := Lib.hid (by split <;> simp)
  have OB : Hid (DigOk (nextD a L)) := Lib.hid (DigOk.next a L)
  have OE : Hid (DigOk (nextD a M)) := Lib.hid (DigOk.next a M)
  clear hn hc hn1 hT hm hd hm1 hU hr hR hq hQ
  have zB := OB.out.sz
  have oB := OB.out.one
  have zE := OE.out.sz
  have oE := OE.out.one
  generalize nextD a L = BD at *
  generalize nextD a M = BE at *
  generalize (if okB L = true then [nextT a L] else []) = T1 at *
  generalize (if okB M = true then [nextT a M] else []) = T2 at *
  generalize erB L = bl at *
  generalize erB M = bm at *
  generalize nextL a L = nL at *
  generalize nextL a M = nM at *
  have OA : Hid (DigOk (digA a)) := Lib.hid (DigOk.d a ha)
  have HBA : Hid ((bv a).toArray = digA a) := Lib.hid (by with_unfolding_all rfl)
  have HBL : Hid ((bv a).length = 32) := Lib.hid (by with_unfolding_all (unfold bv; rw [List.length_map, ha]))
  have HRS := Lib.hid (fun w q h => rwS w q a (.slice la n c) (.slice lb m d) (.slice lr k e) (.slice lq j f) ha 51 h)
  have zA := OA.out.sz
  have oA := OA.out.one
  obtain ⟨w1, HW1, hR1, B1⟩ := made_rw w (rowsV a (.slice la n c) (.slice lb m d) (.slice lr k e) (.slice lq j f))
  obtain ⟨RV, HRV⟩ : ∃ RV, rowsV a (.slice la n c) (.slice lb m d) (.slice lr k e) (.slice lq j f) = RV := ⟨_, rfl⟩
  rw [HRV] at HW1 hR1 ⊢
  unfold RwS at HRS
  simp only [HRV] at HRS
  clear HRV
  generalize digA a = DA at *
  generalize bv a = BA at *
  go_enter Tryd.func6, Tryd.ntmps6
  go_upto_region 1 with fail
  rw [HW1.out]
  clear HW1
  have hR1d : w1.drew.heap[w.heap.size]? = some (.cells RV 51 (0, 0)) := hR1
  have B1d := B1.drew
  clear hR1 B1
  refine wp_region_lin (S := (fun w' => w'.rangeAt w.heap.size 0 BA ∧ w'.cell? ⟨w.heap.size, 32, none⟩ = some (.slice la n c) ∧ w'.cell? ⟨w.heap.size, 33, none⟩ = some (.slice lb m d) ∧ w'.cell? ⟨w.heap.size, 34, none⟩ = some (.slice lr k e) ∧ w'.cell? ⟨w.heap.size, 35, none⟩ = some (.slice lq j f))) [(0, true), (1, true), (2, true), (3, true), (4, true), (5, true), (6, true), (7, true), (8, true), (9, true), (10, false), (11, false), (12, true), (13, true), (14, true), (15, true)] (by kernel_rfl) (by kernel_rfl) rfl (by kernel_rfl) ?_ (fun hHeld => ?_)
  · (try dsimp only); exact HRS.out _ _ hR1d
  generalize World.drew w1 = wd at *
  (refine wpL_calm (o := { dst := some 25, op := Go.Op.fieldAddr 51 (Go.Operand.tmp 1) 0, type := 0, pos := "law.go:104", after := #[], guard := none }) (v := ?_) rfl (Or.inl ⟨by rfl, ?_⟩) ?_; rotate_left; (focus (intro w hSw; (try dsimp only at hSw); go_simp; (try (with_reducible rfl)); done)); try simp only [Act.put, List.setIfInBounds_toArray, List.set_cons_zero, List.set_cons_succ])
  refine wpL_calm (o := { dst := some 26, op := Go.Op.load 34 (Go.Operand.tmp 25), type := 34, pos := "law.go:104", after := #[{ on := 0, ground := Go.Ground.data }], guard := none }) rfl (yieldsIf_load_mid (by rfl) _ _ rfl w.heap.size 0 rfl BA _ (fun _ h => h.1) Tryd.underlying34 rfl (by rw [HBL.out]; kernel_rfl)) ?_; rw [HBA.out]
  try simp only [Act.put, List.setIfInBounds_toArray, List.set_cons_zero, List.set_cons_succ]
  (refine wpL_calm (o := { dst := some 27, op := Go.Op.fieldAddr 51 (Go.Operand.tmp 1) 1, type := 0, pos := "law.go:104", after := #[{ on := 11, ground := Go.Ground.gcOnly Go.Departure.lateStores }], guard := none }) (v := ?_) rfl (Or.inl ⟨by rfl, ?_⟩) ?_; rotate_left; (focus (intro w hSw; (try dsimp only at hSw); go_simp; (try (with_reducible rfl)); done)); try simp only [Act.put, List.setIfInBounds_toArray, List.set_cons_zero, List.set_cons_succ])
  (refine wpL_calm (o := { dst := some 28, op := Go.Op.load 25 (Go.Operand.tmp 27), type := 25, pos := "law.go:104", after := #[{ on := 2, ground := Go.Ground.data }, { on := 11, ground := Go.Ground.gcOnly Go.Departure.lateStores }], guard := none }) (v := ?_) rfl (Or.inl ⟨by rfl, ?_⟩) ?_; rotate_left; (focus (intro w hSw; (try dsimp only at hSw); go_simp; (try (with_reducible rfl)); done)); try simp only [Act.put, List.setIfInBounds_toArray, List.set_cons_zero, List.set_cons_succ])
  (refine wpL_calm (o := { dst := some 29, op := Go.Op.fieldAddr 51 (Go.Operand.tmp 1) 2, type := 0, pos := "law.go:104", after := #[{ on := 12, ground := Go.Ground.gcOnly Go.Departure.lateStores }], guard := none }) (v := ?_) rfl (Or.inl ⟨by rfl, ?_⟩) ?_; rotate_left; (focus (intro w hSw; (try dsimp only at hSw); go_simp; (try (with_reducible rfl)); done)); try simp only [Act.put, List.setIfInBounds_toArray, List.set_cons_zero, List.set_cons_succ])
  (refine wpL_calm (o := { dst := some 30, op := Go.Op.load 25 (Go.Operand.tmp 29), type := 25, pos := "law.go:104", after := #[{ on := 4, ground := Go.Ground.data }, { on := 12, ground := Go.Ground.gcOnly Go.Departure.lateStores }], guard := none }) (v := ?_) rfl (Or.inl ⟨by rfl, ?_⟩) ?_; rotate_left; (focus (intro w hSw; (try dsimp only at hSw); go_simp; (try (with_reducible rfl)); done)); try simp only [Act.put, List.setIfInBounds_toArray, List.set_cons_zero, List.set_cons_succ])
  (refine wpL_calm (o := { dst := some 31, op := Go.Op.fieldAddr 51 (Go.Operand.tmp 1) 3, type := 0, pos := "law.go:104", after := #[{ on := 13, ground := Go.Ground.gcOnly Go.Departure.lateStores }], guard := none }) (v := ?_) rfl (Or.inl ⟨by rfl, ?_⟩) ?_; rotate_left; (focus (intro w hSw; (try dsimp only at hSw); go_simp; (try (with_reducible rfl)); done)); try simp only [Act.put, List.setIfInBounds_toArray, List.set_cons_zero, List.set_cons_succ])
  (refine wpL_calm (o := { dst := some 32, op := Go.Op.load 47 (Go.Operand.tmp 31), type := 47, pos := "law.go:104", after := #[{ on := 6, ground := Go.Ground.data }, { on := 13, ground := Go.Ground.gcOnly Go.Departure.lateStores }], guard := none }) (v := ?_) rfl (Or.inl ⟨by rfl, ?_⟩) ?_; rotate_left; (focus (intro w hSw; (try dsimp only at hSw); go_simp; (try (with_reducible rfl)); done)); try simp only [Act.put, List.setIfInBounds_toArray, List.set_cons_zero, List.set_cons_succ])
  (refine wpL_calm (o := { dst := some 33, op := Go.Op.fieldAddr 51 (Go.Operand.tmp 1) 4, type := 0, pos := "law.go:104", after := #[{ on := 14, ground := Go.Ground.gcOnly Go.Departure.lateStores }], guard := none }) (v := ?_) rfl (Or.inl ⟨by rfl, ?_⟩) ?_; rotate_left; (focus (intro w hSw; (try dsimp only at hSw); go_simp; (try (with_reducible rfl)); done)); try simp only [Act.put, List.setIfInBounds_toArray, List.set_cons_zero, List.set_cons_succ])
  (refine wpL_calm (o := { dst := some 34, op := Go.Op.load 47 (Go.Operand.tmp 33), type := 47, pos := "law.go:104", after := #[{ on := 8, ground := Go.Ground.data }, { on := 14, ground := Go.Ground.gcOnly Go.Departure.lateStores }], guard := none }) (v := ?_) rfl (Or.inl ⟨by rfl, ?_⟩) ?_; rotate_left; (focus (intro w hSw; (try dsimp only at hSw); go_simp; (try (with_reducible rfl)); done)); try simp only [Act.put, List.setIfInBounds_toArray, List.set_cons_zero, List.set_cons_succ])
  refine wpL_loud1 (o := { dst := some 3, op := Go.Op.alloc 34, type := 0, pos := "law.go:104", after := #[], guard := none }) rfl (fun K hK => ?_)
  go_simp
  refine hK.out _ _ ?_ (fun hHeld => ?_)
  · (try dsimp only); exact HRS.out _ _ (blk_belowC ((Below.refl _ _).alloc (Nat.le_refl _) _) hR1d)
  clear hK K
  try simp only [Act.put, List.setIfInBounds_toArray, List.set_cons_zero, List.set_cons_succ]
  refine wpL_loud1 (o := { dst := none, op := Go.Op.store 34 (Go.Operand.tmp 3) (Go.Operand.tmp 26), type := 0, pos := "law.go:104", after := #[{ on := 10, ground := Go.Ground.data }, { on := 1, ground := Go.Ground.data }, { on := 0, ground := Go.Ground.phase }, { on := 1, ground := Go.Ground.phase }, { on := 2, ground := Go.Ground.textOnly Go.Departure.lateStores }, { on := 3, ground := Go.Ground.textOnly Go.Departure.lateStores }, { on := 4, ground := Go.Ground.textOnly Go.Departure.lateStores }, { on := 5, ground := Go.Ground.textOnly Go.Departure.lateStores }, { on := 6, ground := Go.Ground.textOnly Go.Departure.lateStores }, { on := 7, ground := Go.Ground.textOnly Go.Departure.lateStores }, { on := 8, ground := Go.Ground.textOnly Go.Departure.lateStores }, { on := 9, ground := Go.Ground.textOnly Go.Departure.lateStores }, { on := 10, ground := Go.Ground.phase }], guard := none }) rfl (fun K hK => ?_)
  (rw [if_pos (by rfl)]; refine wp_store_row _ _ _ rfl wd.heap.size DA rfl rfl 34 _ (heap_alloc_new _ _) (by rw [zA]; kernel_rfl) (by rw [zA, z32_sizeC]) oA ?_)
  refine hK.out _ _ ?_ (fun hHeld => ?_)
  · (try dsimp only); exact HRS.out _ _ ((setRow_other _ _ _ DA (Nat.ne_of_lt (blk_ltC hR1d))).trans (blk_belowC ((Below.refl _ _).alloc (Nat.le_refl _) _) hR1d))
  clear hK K
  try simp only [Act.put, List.setIfInBounds_toArray, List.set_cons_zero, List.set_cons_succ]
  (refine wpL_calm (o := { dst := some 4, op := Go.Op.assign (Go.Operand.tmp 28), type := 25, pos := "law.go:104", after := #[{ on := 3, ground := Go.Ground.data }, { on := 11, ground := Go.Ground.chain }, { on := 0, ground := Go.Ground.phase }, { on := 1, ground := Go.Ground.phase }, { on := 2, ground := Go.Ground.phase }, { on := 3, ground := Go.Ground.phase }, { on := 4, ground := Go.Ground.textOnly Go.Departure.lateStores }, { on := 5, ground := Go.Ground.textOnly Go.Departure.lateStores }, { on := 6, ground := Go.Ground.textOnly Go.Departure.lateStores }, { on := 7, ground := Go.Ground.textOnly Go.Departure.lateStores }, { on := 8, ground := Go.Ground.textOnly Go.Departure.lateStores }, { on := 9, ground := Go.Ground.textOnly Go.Departure.lateStores }, { on := 10, ground := Go.Ground.phase }, { on := 11, ground := Go.Ground.phase }], guard := none }) (v := ?_) rfl (Or.inl ⟨by rfl, ?_⟩) ?_; rotate_left; (focus (intro w hSw; (try dsimp only at hSw); go_simp; (try (with_reducible rfl)); done)); try simp only [Act.put, List.setIfInBounds_toArray, List.set_cons_zero, List.set_cons_succ])
  (refine wpL_calm (o := { dst := some 5, op := Go.Op.assign (Go.Operand.tmp 30), type := 25, pos := "law.go:104", after := #[{ on := 5, ground := Go.Ground.data }, { on := 12, ground := Go.Ground.chain }, { on := 0, ground := Go.Ground.phase }, { on := 1, ground := Go.Ground.phase }, { on := 2, ground := Go.Ground.phase }, { on := 3, ground := Go.Ground.phase }, { on := 4, ground := Go.Ground.phase }, { on := 5, ground := Go.Ground.phase }, { on := 6, ground := Go.Ground.textOnly Go.Departure.lateStores }, { on := 7, ground := Go.Ground.textOnly Go.Departure.lateStores }, { on := 8, ground := Go.Ground.textOnly Go.Departure.lateStores }, { on := 9, ground := Go.Ground.textOnly Go.Departure.lateStores }, { on := 10, ground := Go.Ground.phase }, { on := 11, ground := Go.Ground.phase }, { on := 12, ground := Go.Ground.phase }], guard := none }) (v := ?_) rfl (Or.inl ⟨by rfl, ?_⟩) ?_; rotate_left; (focus (intro w hSw; (try dsimp only at hSw); go_simp; (try (with_reducible rfl)); done)); try simp only [Act.put, List.setIfInBounds_toArray, List.set_cons_zero, List.set_cons_succ])
  (refine wpL_calm (o := { dst := some 6, op := Go.Op.assign (Go.Operand.tmp 32), type := 47, pos := "law.go:104", after := #[{ on := 7, ground := Go.Ground.data }, { on := 13, ground := Go.Ground.chain }, { on := 0, ground := Go.Ground.phase }, { on := 1, ground := Go.Ground.phase }, { on := 2, ground := Go.Ground.phase }, { on := 3, ground := Go.Ground.phase }, { on := 4, ground := Go.Ground.phase }, { on := 5, ground := Go.Ground.phase }, { on := 6, ground := Go.Ground.phase }, { on := 7, ground := Go.Ground.phase }, { on := 8, ground := Go.Ground.textOnly Go.Departure.lateStores }, { on := 9, ground := Go.Ground.textOnly Go.Departure.lateStores }, { on := 10, ground := Go.Ground.phase }, { on := 11, ground := Go.Ground.phase }, { on := 12, ground := Go.Ground.phase }, { on := 13, ground := Go.Ground.phase }], guard := none }) (v := ?_) rfl (Or.inl ⟨by rfl, ?_⟩) ?_; rotate_left; (focus (intro w hSw; (try dsimp only at hSw); go_simp; (try (with_reducible rfl)); done)); try simp only [Act.put, List.setIfInBounds_toArray, List.set_cons_zero, List.set_cons_succ])
  (refine wpL_calm (o := { dst := some 7, op := Go.Op.assign (Go.Operand.tmp 34), type := 47, pos := "law.go:104", after := #[{ on := 9, ground := Go.Ground.data }, { on := 14, ground := Go.Ground.chain }, { on := 0, ground := Go.Ground.phase }, { on := 1, ground := Go.Ground.phase }, { on := 2, ground := Go.Ground.phase }, { on := 3, ground := Go.Ground.phase }, { on := 4, ground := Go.Ground.phase }, { on := 5, ground := Go.Ground.phase }, { on := 6, ground := Go.Ground.phase }, { on := 7, ground := Go.Ground.phase }, { on := 8, ground := Go.Ground.phase }, { on := 9, ground := Go.Ground.phase }, { on := 10, ground := Go.Ground.phase }, { on := 11, ground := Go.Ground.phase }, { on := 12, ground := Go.Ground.phase }, { on := 13, ground := Go.Ground.phase }, { on := 14, ground := Go.Ground.phase }], guard := none }) (v := ?_) rfl (Or.inl ⟨by rfl, ?_⟩) ?_; rotate_left; (focus (intro w hSw; (try dsimp only at hSw); go_simp; (try (with_reducible rfl)); done)); try simp only [Act.put, List.setIfInBounds_toArray, List.set_cons_zero, List.set_cons_succ])
  refine wpL_nil ?_
  refine NoPanic.normal ?_
  obtain ⟨w2, HW2, hd2, b2⟩ := stored_dg wd DA
  rw [HW2.out]
  clear HW2 hHeld
  have B2 := B1d.trans (b2.mono B1d.size)
  have HL3 : Hid (wd.heap.size < w2.heap.size) := Lib.hid (blk_ltC hd2)
  clear b2 B1d hR1d HRS HBA HBL
  generalize wd.heap.size = q3 at *
  clear ha
  go_wp2_with fail
  refine (new_x w2.heap.size w2 (Nat.le_refl _)).mono ?_
  rintro e w3 ⟨rfl, hX3, b3⟩
  obtain ⟨X0, S0, eX0, e0, l0, few0⟩ : ∃ X0 S0, (some ⟨w2.heap.size + 1, [], .slice none 0 0, .slice none 0 0, w2.heap.size, .map []⟩ : Option OrS) = X0 ∧ X0 = some S0 ∧ S0.l = [] ∧ FewX X0 0 := ⟨_, _, rfl, rfl, rfl, FewX.zero w2 _ _ _ _ _⟩
  rw [eX0] at hX3
  clear eX0
  have hf3 := hX3.freeLow q3 HL3.out
  have hX3' := hX3.weak B2.size
  have hd3 := blk_belowC b3 hd2
  have B3 := B2.trans (b3.mono B2.size)
  clear hX3 b3 hd2 B2
  generalize (⟨w2.heap.size + 1, 0, none⟩ : Addr) = og at *
  have l3 := OA.out.ld _ _ hd3
  go_wp2_with ((with_reducible refine wpList_load_arr_i (g := q3) (cs := DA) 34 _ rfl ?_ ?_ ?_); exact ⟨rfl, rfl⟩; assumption)
  refine (HNX.out _ _ X0 B3 hX3' (few0.mono (by omega))).mono ?_
  rintro e w4 ⟨X4, rfl, hX4, hS4, b4, K4⟩
  have hd4 := K4.keep _ _ hd3 hf3
  have hf4 := K4.free _ (blk_ltC hd3) hf3
  have B4 := B3.trans b4
  have few4 : FewX X4 1 := (hS4.few few0).mono (by have := HT1.out; omega)
  have HS4 := Lib.hid hS4
  clear hS4 b4 K4 hX3' hd3 hf3 B3 HNX l3
  obtain ⟨w5, HW_, hq9, b_⟩ := stored_dg w4 BD
  go_upto_region 6 with (refine wpList_store_row rfl _ _ _ rfl w4.heap.size BD rfl rfl 34 _ (heap_alloc_new _ _) (by rw [zB]; kernel_rfl) (by rw [zB, z32_sizeC]) oB ?_)
  rw [HW_.out]
  clear HW_
  have hd5 := blk_belowC b_ hd4
  have hX5 := hX4.below b_
  have hf59 := hX4.free _ (Nat.le_refl _)
  have B5 := B4.trans (b_.mono B4.size)
  clear b_ hd4 hX4 B4
  generalize w4.heap.size = q9 at *
  have l3 := OA.out.ld _ _ hd5
  go_wp2_with ((with_reducible refine wpList_load_arr_i (g := q3) (cs := DA) 34 _ rfl ?_ ?_ ?_); exact ⟨rfl, rfl⟩; assumption)
  refine (HNY.out _ _ X4 B5 hX5 (few4.mono (by omega))).mono ?_
  rintro e w6 ⟨X6, rfl, hX6, hS6, b6, K6⟩
  have hd6 := K6.keep _ _ hd5 hf4
  have hf6 := K6.free _ (blk_ltC hd5) hf4
  have hq96 := K6.keep _ _ hq9 hf59
  have B6 := B5.trans b6
  have few6 : FewX X6 2 := (hS6.few few4).mono (by have := HT2.out; omega)
  have HS6 := Lib.hid hS6
  clear hS6 b6 K6 hX5 hd5 hf4 hf59 hq9 B5 HNY l3 few4
  obtain ⟨w7, HW_, hq11, b_⟩ := stored_dg w6 BE
  go_upto_region 7 with (refine wpList_store_row rfl _ _ _ rfl w6.heap.size BE rfl rfl 34 _ (heap_alloc_new _ _) (by rw [zE]; kernel_rfl) (by rw [zE, z32_sizeC]) oE ?_)
  rw [HW_.out]
  clear HW_
  have hd7 := blk_belowC b_ hd6
  have hX7 := hX6.below b_
  have hq97 := blk_belowC b_ hq96
  have B7 := B6.trans (b_.mono B6.size)
  clear b_ hd6 hX6 hq96 B6
  generalize w6.heap.size = q11 at *
  go_cut [75] from 59 (fun s75 wx => ∃ cc, s75 = .bool cc ∧ Hid (cc = true → ∃ s t : List UInt8, s ∈ T1 ∧ t ∈ T2 ∧ s ≠ t ∧ sumL s = sumL t) ∧ Hid (Below w7.heap.size w7 wx))
  case first =>
    have lB := OB.out.ld _ _ hq97
    have lE := OE.out.ld _ _ hq11
    clear HL3 hd7 hf6
    cases e1 : okB L with
    | false =>
      obtain rfl := HB6.out e1
      clear lB lE
      go_wp2_with fail
      go_meet
      exact ⟨false, rfl, Lib.hid (fun h => by cases h), Lib.hid (Below.refl _ _)⟩
    | true =>
      obtain rfl := HB0.out e1
      cases e2 : okB M with
      | false =>
        obtain rfl := HE6.out e2
        clear lB lE
        go_wp2_with fail
        go_meet
        exact ⟨false, rfl, Lib.hid (fun h => by cases h), Lib.hid (Below.refl _ _)⟩
      | true =>
        obtain rfl := HE0.out e2
        have heq := HQ.out e1 e2
        by_cases e3 : nL = nM
        · rw [show (nL == nM) = true from by simpa using e3] at heq
          by_cases e4 : L = M
          · have HSY : Hid (∀ wc, Below w.heap.size w wc → Calls Tryd.prog 23 #[.slice la n c, .slice lb m d] wc fun e w' => e = .returned (.bool true) ∧ Below wc.heap.size wc w') := Lib.hid (fun wc hb => by have := HSM.out wc hb; rw [decide_eq_true e4] at this; exact this)
            clear HSM HC1
            go_wp2_with (first | ((with_reducible refine wpList_load_arr_i (g := q9) (cs := BD) 34 _ rfl ?_ ?_ ?_); exact ⟨rfl, rfl⟩; assumption) | ((with_reducible refine wpList_load_arr_i (g := q11) (cs := BE) 34 _ rfl ?_ ?_ ?_); exact ⟨rfl, rfl⟩; assumption))
            refine (HSY.out _ B7).mono ?_
            rintro e w8 ⟨rfl, b8⟩
            go_wp2_with fail
            go_meet
            exact ⟨false, rfl, Lib.hid (fun h => by cases h), Lib.hid b8⟩
          · have HSY : Hid (∀ wc, Below w.heap.size w wc → Calls Tryd.prog 23 #[.slice la n c, .slice lb m d] wc fun e w' => e = .returned (.bool false) ∧ Below wc.heap.size wc w') := Lib.hid (fun wc hb => by have := HSM.out wc hb; rw [decide_eq_false e4] at this; exact this)
            have HCX := Lib.hid (HC1.out e1 e2 e3 e4)
            clear HSM HC1
            go_wp2_with (first | ((with_reducible refine wpList_load_arr_i (g := q9) (cs := BD) 34 _ rfl ?_ ?_ ?_); exact ⟨rfl, rfl⟩; assumption) | ((with_reducible refine wpList_load_arr_i (g := q11) (cs := BE) 34 _ rfl ?_ ?_ ?_); exact ⟨rfl, rfl⟩; assumption))
            refine (HSY.out _ B7).mono ?_
            rintro e w8 ⟨rfl, b8⟩
            go_wp2_with fail
            go_meet
            exact ⟨true, rfl, Lib.hid (fun _ => HCX.out), Lib.hid b8⟩
        · rw [show (nL == nM) = false from by simpa using e3] at heq
          go_wp2_with (first | ((with_reducible refine wpList_load_arr_i (g := q9) (cs := BD) 34 _ rfl ?_ ?_ ?_); exact ⟨rfl, rfl⟩; assumption) | ((with_reducible refine wpList_load_arr_i (g := q11) (cs := BE) 34 _ rfl ?_ ?_ ?_); exact ⟨rfl, rfl⟩; assumption))
          go_meet
          exact ⟨false, rfl, Lib.hid (fun h => by cases h), Lib.hid (Below.refl _ _)⟩
  case rest =>
    obtain ⟨cc, rfl, HCC, HBX⟩ := hcut
    have hd8 := Lib.hid (blk_belowC HBX.out hd7)
    have hX8 := Lib.hid (hX7.below HBX.out)
    have B8 := Lib.hid (B7.trans (HBX.out.mono B7.size))
    clear hd7 hX7 B7 hq97 hq11 HB0 HB6 HE0 HE6 HQ HC1 HSM OB OE HBX
    generalize wc = wa at *
    go_upto_if 75 with fail
    go_cut [13, 14, 15] from 59 (fun s13 s14 s15 wx => Hid (Below wa.heap.size wa wx))
    case first =>
      cases cc with
      | false =>
        go_wp2_with fail
        go_meet
        exact Lib.hid (Below.refl _ _)
      | true =>
        obtain ⟨s, t, hs1, ht1, hne, hst⟩ := HCC.out rfl
        obtain ⟨S6, e6, ea, hP⟩ := hX8.out.some
        obtain ⟨S4, e4', _, m4, _⟩ := HS4.out.so S0 e0
        obtain ⟨S6', e6', _, m6, _⟩ := HS6.out.so S4 e4'
        rw [e6] at e6'
        cases e6'
        have HCO := Lib.hid (collide_told w.heap.size S6.g S6.l S6.tv S6.sv S6.b S6.D wa hP (by have := few6 S6 e6; omega) s t ((m6 s).2 (Or.inl ((m4 s).2 (Or.inr hs1)))) ((m6 t).2 (Or.inr ht1)) hne hst)
        rw [← ea] at HCO
        clear hP e6 ea m4 m6 hs1 ht1 hne hst HCC
        go_wp2_with fail
        refine HCO.out.mono ?_
        rintro e w9 ⟨s', t', rfl, b9⟩
        go_wp2_with fail
        go_meet
        exact Lib.hid b9
    case rest =>
    have BX := hcut.out
    have hd8 := blk_belowC BX hd8.out
    have hX8 := hX8.out.below BX
    have B8 := B8.out.trans (BX.mono B8.out.size)
    clear hcut BX HCC
    go_wp2_with fail
    refine (awake14 _ (hG.below B8)).mono ?_
    rintro e w9 ⟨rfl, b9⟩
    go_wp2_with fail
    go_ret
    exact ⟨rfl, B8.trans (b9.mono B8.size)⟩
set_option maxRecDepth 100000 in
set_option maxHeartbeats 16000000 in
theorem chainApart_long (a : List UInt8) (L M : List ByteArray) (R Q : List (List ByteArray)) (la lb lr lq : Option Addr) (n c m d k e j f : Nat) (w : World) (hG : Gl w) (ha : a.length = 32) (hn : L.length = n) (hc : n ≤ c) (hn1 : n ≤ 100) (hT : TxtAt w la L) (hm : M.length = m) (hd : m ≤ d) (hm1 : m ≤ 100) (hU : TxtAt w lb M) (hr : R.length = k) (hR : RowsAt2 w lr R) (hq : Q.length = j) (hQ : RowsAt2 w lq Q) (hk : k ≤ 6) (hkj : k = j) :
    Calls Tryd.prog 6 #[.agg (rowsV a (.slice la n c) (.slice lb m d) (.slice lr k e) (.slice lq j f))] w fun e w' => e = .returned (.bool true) ∧ Below w.heap.size w w' := by
  have hz := zero_dig
  have hgf := hG.sf
  have hgk := hG.sk
  have t1 : ¬ (100 : Int) < (n : Int) := by omega
  have t2 : ¬ (100 : Int) < (m : Int) := by omega
  subst hkj
  have t3 : ¬ (6 : Int) < (k : Int) := by omega
  have HNX : Hid (∀ wc o X, Below w.heap.size w wc → OrX w.heap.size wc o X → FewX X 100 → Calls Tryd.prog 20 #[.pointer o, .agg (digA a), .slice la n c] wc fun e w' => ∃ X', e = .returned (.tuple #[.agg (nextD a L), .int .i64 (erB L)]) ∧ OrX w.heap.size w' o X' ∧ SumsX X X' (if okB L = true then [nextT a L] else []) ∧ Below w.heap.size wc w' ∧ KeptX wc w' X X') := Lib.hid (fun wc o X hb hX hF => next_u w.heap.size o X a L la n c wc (hG.below hb) hgf hgk hX (hF.mono (by omega)) ha hn hc (by omega) (hT.b hb hX))
  have HNY : Hid (∀ wc o X, Below w.heap.size w wc → OrX w.heap.size wc o X → FewX X 100 → Calls Tryd.prog 20 #[.pointer o, .agg (digA a), .slice lb m d] wc fun e w' => ∃ X', e = .returned (.tuple #[.agg (nextD a M), .int .i64 (erB M)]) ∧ OrX w.heap.size w' o X' ∧ SumsX X X' (if okB M = true then [nextT a M] else []) ∧ Below w.heap.size wc w' ∧ KeptX wc w' X X') := Lib.hid (fun wc o X hb hX hF => next_u w.heap.size o X a M lb m d wc (hG.below hb) hgf hgk hX (hF.mono (by omega)) ha hm hd (by omega) (hU.b hb hX))
  have HAR : Hid (∀ wc o X, Below w.heap.size w wc → OrX w.heap.size wc o X → FewX X 100 → Calls Tryd.prog 21 #[.pointer o, .agg (digA a), .slice lr k e] wc fun e w' => ∃ X', e = .returned (.tuple #[.agg (alongD a R), .int .i64 (erR R)]) ∧ OrX w.heap.size w' o X' ∧ SumsX X X' (if okR R = true then alT a R k else []) ∧ Below w.heap.size wc w' ∧ KeptX wc w' X X') := Lib.hid (fun wc o X hb hX hF => along_u w.heap.size o X a R lr k e wc (hG.below hb) hgf hgk hX (hF.mono (by omega)) ha hr (by omega) (hR.b hb hX))
  have HAQ : Hid (∀ wc o X, Below w.heap.size w wc → OrX w.heap.size wc o X → FewX X 100 → Calls Tryd.prog 21 #[.pointer o, .agg (digA a), .slice lq k f] wc fun e w' => ∃ X', e = .returned (.tuple #[.agg (alongD a Q), .int .i64 (erR Q)]) ∧ OrX w.heap.size w' o X' ∧ SumsX X X' (if okR Q = true then alT a Q k else []) ∧ Below w.heap.size wc w' ∧ KeptX wc w' X X') := Lib.hid (fun wc o X hb hX hF => along_u w.heap.size o X a Q lq k f wc (hG.below hb) hgf hgk hX (hF.mono (by omega)) ha hq (by omega) (hQ.b hb hX))
  have HSM : Hid (∀ wc, Below w.heap.size w wc → Calls Tryd.prog 23 #[.slice la n c, .slice lb m d] wc fun e w' => e = .returned (.bool (decide (L = M))) ∧ Below wc.heap.size wc w') := Lib.hid (fun wc hb => same_any L M la lb n c m d wc hn hm (by omega) (by omega) (hT.below hb) (hU.below hb))
  have HB0 : Hid (okB L = true → erB L = 0) := Lib.hid (fun h => by unfold erB; rw [h]; rfl)
  have HB6 : Hid (okB L = false → erB L = 6) := Lib.hid (fun h => by unfold erB; rw [h]; rfl)
  have HE0 : Hid (okB M = true → erB M = 0) := Lib.hid (fun h => by unfold erB; rw [h]; rfl)
  have HE6 : Hid (okB M = false → erB M = 6) := Lib.hid (fun h => by unfold erB; rw [h]; rfl)
  have HQ : Hid (okB L = true → okB M = true → ∀ w, (binOp .eql 34 (.agg (nextD a L)) (.agg (nextD a M))).run Tryd.prog w = .ok (.bool (nextL a L == nextL a M)) w) := Lib.hid (fun h1 h2 => by rw [nextD_yes a L h1, nextD_yes a M h2]; exact eql_dig2 _ _ (nextL_len _ _) (nextL_len _ _))
  have HC1 : Hid (okB L = true → okB M = true → nextL a L = nextL a M → L ≠ M → ∃ s t : List UInt8, s ∈ (if okB L = true then [nextT a L] else []) ∧ t ∈ (if okB M = true then [nextT a M] else []) ∧ s ≠ t ∧ sumL s = sumL t) := Lib.hid (fun h1 h2 h3 h4 => by
    obtain ⟨q1, q2⟩ := next_apart a ha L M h1 h2 h4 h3
    rw [if_pos h1, if_pos h2]
    exact ⟨_, _, List.mem_singleton.2 rfl, List.mem_singleton.2 rfl, q1, q2⟩)
  have HT1 : Hid ((if okB L = true then [nextT a L] else []).length ≤ 1) := Lib.hid (by split <;> simp)
  have HT2 : Hid ((if okB M = true then [nextT a M] else []).length ≤ 1) := Lib.hid (by split <;> simp)
  have OB : Hid (DigOk (nextD a L)) := Lib.hid (DigOk.next a L)
  have OE : Hid (DigOk (nextD a M)) := Lib.hid (DigOk.next a M)
  have HG0 : Hid (okR R = true → erR R = 0) := Lib.hid (fun h => by unfold erR; rw [h]; rfl)
  have HG6 : Hid (okR R = false → erR R = 6) := Lib.hid (fun h => by unfold erR; rw [h]; rfl)
  have HH0 : Hid (okR Q = true → erR Q = 0) := Lib.hid (fun h => by unfold erR; rw [h]; rfl)
  have HH6 : Hid (okR Q = false → erR Q = 6) := Lib.hid (fun h => by unfold erR; rw [h]; rfl)
  have HNQ : Hid (okR R = true → okR Q = true → ∀ w, (binOp .neq 34 (.agg (alongD a R)) (.agg (alongD a Q))).run Tryd.prog w = .ok (.bool (!(alL a R k == alL a Q k))) w) := Lib.hid (fun h1 h2 => by rw [show alongD a R = digA (alL a R k) from by unfold alongD; rw [if_pos h1, hr], show alongD a Q = digA (alL a Q k) from by unfold alongD; rw [if_pos h2, hq]]; exact neq_dig2 _ _ (alL_len a R ha _) (alL_len a Q ha _))
  have HC2 : Hid (okR R = true → okR Q = true → alL a R k = alL a Q k → R ≠ Q → ∃ s t : List UInt8, s ∈ (if okR R = true then alT a R k else []) ∧ t ∈ (if okR Q = true then alT a Q k else []) ∧ s ≠ t ∧ sumL s = sumL t) := Lib.hid (fun h1 h2 h3 h4 => by
    rw [if_pos h1, if_pos h2, ← hr]
    exact rows_apart a ha R Q (fun i hi => List.all_eq_true.1 h1 _ (List.getElem_mem hi)) (fun i hi => List.all_eq_true.1 h2 _ (List.getElem_mem hi)) (by rw [hr, hq]) h4 (by rw [hr]; exact h3))
  have HT3 : Hid ((if okR R = true then alT a R k else []).length ≤ 6) := Lib.hid (by split; exact (by rw [alT_len]; exact hk); simp)
  have HT4 : Hid ((if okR Q = true then alT a Q k else []).length ≤ 6) := Lib.hid (by split; exact (by rw [alT_len]; exact hk); simp)
  have OR : Hid (DigOk (alongD a R)) := Lib.hid (DigOk.along a ha R)
  have OQ : Hid (DigOk (alongD a Q)) := Lib.hid (DigOk.along a ha Q)
  have HRR := Lib.hid hR
  have HQQ := Lib.hid hQ
  have HLR := Lib.hid hr
  have HLQ := Lib.hid hq
  have HSF : Hid (smR R Q k = decide (R = Q)) := Lib.hid (by rw [← hr]; exact smR_full R Q (by rw [hr, hq]))
  have HSS := Lib.hid (smR_step R Q)
  have HS0 := Lib.hid (smR_zero R Q)
  clear hn hc hn1 hT hm hd hm1 hU hr hR hq hQ
  have zB := OB.out.sz
  have oB := OB.out.one
  have zE := OE.out.sz
  have oE := OE.out.one
  generalize nextD a L = BD at *
  generalize nextD a M = BE at *
  generalize (if okB L = true then [nextT a L] else []) = T1 at *
  generalize (if okB M = true then [nextT a M] else []) = T2 at *
  generalize erB L = bl at *
  generalize erB M = bm at *
  generalize nextL a L = nL at *
  generalize nextL a M = nM at *
  have zR := OR.out.sz
  have oR := OR.out.one
  have zQ := OQ.out.sz
  have oQ := OQ.out.one
  generalize alongD a R = DR at *
  generalize alongD a Q = DQ at *
  generalize (if okR R = true then alT a R k else []) = T3 at *
  generalize (if okR Q = true then alT a Q k else []) = T4 at *
  generalize erR R = br at *
  generalize erR Q = bq at *
  generalize alL a R k = aR at *
  generalize alL a Q k = aQ at *
  have OA : Hid (DigOk (digA a)) := Lib.hid (DigOk.d a ha)
  have HBA : Hid ((bv a).toArray = digA a) := Lib.hid (by with_unfolding_all rfl)
  have HBL : Hid ((bv a).length = 32) := Lib.hid (by with_unfolding_all (unfold bv; rw [List.length_map, ha]))
  have HRS := Lib.hid (fun w q h => rwS w q a (.slice la n c) (.slice lb m d) (.slice lr k e) (.slice lq k f) ha 51 h)
  have zA := OA.out.sz
  have oA := OA.out.one
  obtain ⟨w1, HW1, hR1, B1⟩ := made_rw w (rowsV a (.slice la n c) (.slice lb m d) (.slice lr k e) (.slice lq k f))
  obtain ⟨RV, HRV⟩ : ∃ RV, rowsV a (.slice la n c) (.slice lb m d) (.slice lr k e) (.slice lq k f) = RV := ⟨_, rfl⟩
  rw [HRV] at HW1 hR1 ⊢
  unfold RwS at HRS
  simp only [HRV] at HRS
  clear HRV
  generalize digA a = DA at *
  generalize bv a = BA at *
  go_enter Tryd.func6, Tryd.ntmps6
  go_upto_region 1 with fail
  rw [HW1.out]
  clear HW1
  have hR1d : w1.drew.heap[w.heap.size]? = some (.cells RV 51 (0, 0)) := hR1
  have B1d := B1.drew
  clear hR1 B1
  refine wp_region_lin (S := (fun w' => w'.rangeAt w.heap.size 0 BA ∧ w'.cell? ⟨w.heap.size, 32, none⟩ = some (.slice la n c) ∧ w'.cell? ⟨w.heap.size, 33, none⟩ = some (.slice lb m d) ∧ w'.cell? ⟨w.heap.size, 34, none⟩ = some (.slice lr k e) ∧ w'.cell? ⟨w.heap.size, 35, none⟩ = some (.slice lq k f))) [(0, true), (1, true), (2, true), (3, true), (4, true), (5, true), (6, true), (7, true), (8, true), (9, true), (10, false), (11, false), (12, true), (13, true), (14, true), (15, true)] (by kernel_rfl) (by kernel_rfl) rfl (by kernel_rfl) ?_ (fun hHeld => ?_)
  · (try dsimp only); exact HRS.out _ _ hR1d
  generalize World.drew w1 = wd at *
  (refine wpL_calm (o := { dst := some 25, op := Go.Op.fieldAddr 51 (Go.Operand.tmp 1) 0, type := 0, pos := "law.go:104", after := #[], guard := none }) (v := ?_) rfl (Or.inl ⟨by rfl, ?_⟩) ?_; rotate_left; (focus (intro w hSw; (try dsimp only at hSw); go_simp; (try (with_reducible rfl)); done)); try simp only [Act.put, List.setIfInBounds_toArray, List.set_cons_zero, List.set_cons_succ])
  refine wpL_calm (o := { dst := some 26, op := Go.Op.load 34 (Go.Operand.tmp 25), type := 34, pos := "law.go:104", after := #[{ on := 0, ground := Go.Ground.data }], guard := none }) rfl (yieldsIf_load_mid (by rfl) _ _ rfl w.heap.size 0 rfl BA _ (fun _ h => h.1) Tryd.underlying34 rfl (by rw [HBL.out]; kernel_rfl)) ?_; rw [HBA.out]
  try simp only [Act.put, List.setIfInBounds_toArray, List.set_cons_zero, List.set_cons_succ]
  (refine wpL_calm (o := { dst := some 27, op := Go.Op.fieldAddr 51 (Go.Operand.tmp 1) 1, type := 0, pos := "law.go:104", after := #[{ on := 11, ground := Go.Ground.gcOnly Go.Departure.lateStores }], guard := none }) (v := ?_) rfl (Or.inl ⟨by rfl, ?_⟩) ?_; rotate_left; (focus (intro w hSw; (try dsimp only at hSw); go_simp; (try (with_reducible rfl)); done)); try simp only [Act.put, List.setIfInBounds_toArray, List.set_cons_zero, List.set_cons_succ])
  (refine wpL_calm (o := { dst := some 28, op := Go.Op.load 25 (Go.Operand.tmp 27), type := 25, pos := "law.go:104", after := #[{ on := 2, ground := Go.Ground.data }, { on := 11, ground := Go.Ground.gcOnly Go.Departure.lateStores }], guard := none }) (v := ?_) rfl (Or.inl ⟨by rfl, ?_⟩) ?_; rotate_left; (focus (intro w hSw; (try dsimp only at hSw); go_simp; (try (with_reducible rfl)); done)); try simp only [Act.put, List.setIfInBounds_toArray, List.set_cons_zero, List.set_cons_succ])
  (refine wpL_calm (o := { dst := some 29, op := Go.Op.fieldAddr 51 (Go.Operand.tmp 1) 2, type := 0, pos := "law.go:104", after := #[{ on := 12, ground := Go.Ground.gcOnly Go.Departure.lateStores }], guard := none }) (v := ?_) rfl (Or.inl ⟨by rfl, ?_⟩) ?_; rotate_left; (focus (intro w hSw; (try dsimp only at hSw); go_simp; (try (with_reducible rfl)); done)); try simp only [Act.put, List.setIfInBounds_toArray, List.set_cons_zero, List.set_cons_succ])
  (refine wpL_calm (o := { dst := some 30, op := Go.Op.load 25 (Go.Operand.tmp 29), type := 25, pos := "law.go:104", after := #[{ on := 4, ground := Go.Ground.data }, { on := 12, ground := Go.Ground.gcOnly Go.Departure.lateStores }], guard := none }) (v := ?_) rfl (Or.inl ⟨by rfl, ?_⟩) ?_; rotate_left; (focus (intro w hSw; (try dsimp only at hSw); go_simp; (try (with_reducible rfl)); done)); try simp only [Act.put, List.setIfInBounds_toArray, List.set_cons_zero, List.set_cons_succ])
  (refine wpL_calm (o := { dst := some 31, op := Go.Op.fieldAddr 51 (Go.Operand.tmp 1) 3, type := 0, pos := "law.go:104", after := #[{ on := 13, ground := Go.Ground.gcOnly Go.Departure.lateStores }], guard := none }) (v := ?_) rfl (Or.inl ⟨by rfl, ?_⟩) ?_; rotate_left; (focus (intro w hSw; (try dsimp only at hSw); go_simp; (try (with_reducible rfl)); done)); try simp only [Act.put, List.setIfInBounds_toArray, List.set_cons_zero, List.set_cons_succ])
  (refine wpL_calm (o := { dst := some 32, op := Go.Op.load 47 (Go.Operand.tmp 31), type := 47, pos := "law.go:104", after := #[{ on := 6, ground := Go.Ground.data }, { on := 13, ground := Go.Ground.gcOnly Go.Departure.lateStores }], guard := none }) (v := ?_) rfl (Or.inl ⟨by rfl, ?_⟩) ?_; rotate_left; (focus (intro w hSw; (try dsimp only at hSw); go_simp; (try (with_reducible rfl)); done)); try simp only [Act.put, List.setIfInBounds_toArray, List.set_cons_zero, List.set_cons_succ])
  (refine wpL_calm (o := { dst := some 33, op := Go.Op.fieldAddr 51 (Go.Operand.tmp 1) 4, type := 0, pos := "law.go:104", after := #[{ on := 14, ground := Go.Ground.gcOnly Go.Departure.lateStores }], guard := none }) (v := ?_) rfl (Or.inl ⟨by rfl, ?_⟩) ?_; rotate_left; (focus (intro w hSw; (try dsimp only at hSw); go_simp; (try (with_reducible rfl)); done)); try simp only [Act.put, List.setIfInBounds_toArray, List.set_cons_zero, List.set_cons_succ])
  (refine wpL_calm (o := { dst := some 34, op := Go.Op.load 47 (Go.Operand.tmp 33), type := 47, pos := "law.go:104", after := #[{ on := 8, ground := Go.Ground.data }, { on := 14, ground := Go.Ground.gcOnly Go.Departure.lateStores }], guard := none }) (v := ?_) rfl (Or.inl ⟨by rfl, ?_⟩) ?_; rotate_left; (focus (intro w hSw; (try dsimp only at hSw); go_simp; (try (with_reducible rfl)); done)); try simp only [Act.put, List.setIfInBounds_toArray, List.set_cons_zero, List.set_cons_succ])
  refine wpL_loud1 (o := { dst := some 3, op := Go.Op.alloc 34, type := 0, pos := "law.go:104", after := #[], guard := none }) rfl (fun K hK => ?_)
  go_simp
  refine hK.out _ _ ?_ (fun hHeld => ?_)
  · (try dsimp only); exact HRS.out _ _ (blk_belowC ((Below.refl _ _).alloc (Nat.le_refl _) _) hR1d)
  clear hK K
  try simp only [Act.put, List.setIfInBounds_toArray, List.set_cons_zero, List.set_cons_succ]
  refine wpL_loud1 (o := { dst := none, op := Go.Op.store 34 (Go.Operand.tmp 3) (Go.Operand.tmp 26), type := 0, pos := "law.go:104", after := #[{ on := 10, ground := Go.Ground.data }, { on := 1, ground := Go.Ground.data }, { on := 0, ground := Go.Ground.phase }, { on := 1, ground := Go.Ground.phase }, { on := 2, ground := Go.Ground.textOnly Go.Departure.lateStores }, { on := 3, ground := Go.Ground.textOnly Go.Departure.lateStores }, { on := 4, ground := Go.Ground.textOnly Go.Departure.lateStores }, { on := 5, ground := Go.Ground.textOnly Go.Departure.lateStores }, { on := 6, ground := Go.Ground.textOnly Go.Departure.lateStores }, { on := 7, ground := Go.Ground.textOnly Go.Departure.lateStores }, { on := 8, ground := Go.Ground.textOnly Go.Departure.lateStores }, { on := 9, ground := Go.Ground.textOnly Go.Departure.lateStores }, { on := 10, ground := Go.Ground.phase }], guard := none }) rfl (fun K hK => ?_)
  (rw [if_pos (by rfl)]; refine wp_store_row _ _ _ rfl wd.heap.size DA rfl rfl 34 _ (heap_alloc_new _ _) (by rw [zA]; kernel_rfl) (by rw [zA, z32_sizeC]) oA ?_)
  refine hK.out _ _ ?_ (fun hHeld => ?_)
  · (try dsimp only); exact HRS.out _ _ ((setRow_other _ _ _ DA (Nat.ne_of_lt (blk_ltC hR1d))).trans (blk_belowC ((Below.refl _ _).alloc (Nat.le_refl _) _) hR1d))
  clear hK K
  try simp only [Act.put, List.setIfInBounds_toArray, List.set_cons_zero, List.set_cons_succ]
  (refine wpL_calm (o := { dst := some 4, op := Go.Op.assign (Go.Operand.tmp 28), type := 25, pos := "law.go:104", after := #[{ on := 3, ground := Go.Ground.data }, { on := 11, ground := Go.Ground.chain }, { on := 0, ground := Go.Ground.phase }, { on := 1, ground := Go.Ground.phase }, { on := 2, ground := Go.Ground.phase }, { on := 3, ground := Go.Ground.phase }, { on := 4, ground := Go.Ground.textOnly Go.Departure.lateStores }, { on := 5, ground := Go.Ground.textOnly Go.Departure.lateStores }, { on := 6, ground := Go.Ground.textOnly Go.Departure.lateStores }, { on := 7, ground := Go.Ground.textOnly Go.Departure.lateStores }, { on := 8, ground := Go.Ground.textOnly Go.Departure.lateStores }, { on := 9, ground := Go.Ground.textOnly Go.Departure.lateStores }, { on := 10, ground := Go.Ground.phase }, { on := 11, ground := Go.Ground.phase }], guard := none }) (v := ?_) rfl (Or.inl ⟨by rfl, ?_⟩) ?_; rotate_left; (focus (intro w hSw; (try dsimp only at hSw); go_simp; (try (with_reducible rfl)); done)); try simp only [Act.put, List.setIfInBounds_toArray, List.set_cons_zero, List.set_cons_succ])
  (refine wpL_calm (o := { dst := some 5, op := Go.Op.assign (Go.Operand.tmp 30), type := 25, pos := "law.go:104", after := #[{ on := 5, ground := Go.Ground.data }, { on := 12, ground := Go.Ground.chain }, { on := 0, ground := Go.Ground.phase }, { on := 1, ground := Go.Ground.phase }, { on := 2, ground := Go.Ground.phase }, { on := 3, ground := Go.Ground.phase }, { on := 4, ground := Go.Ground.phase }, { on := 5, ground := Go.Ground.phase }, { on := 6, ground := Go.Ground.textOnly Go.Departure.lateStores }, { on := 7, ground := Go.Ground.textOnly Go.Departure.lateStores }, { on := 8, ground := Go.Ground.textOnly Go.Departure.lateStores }, { on := 9, ground := Go.Ground.textOnly Go.Departure.lateStores }, { on := 10, ground := Go.Ground.phase }, { on := 11, ground := Go.Ground.phase }, { on := 12, ground := Go.Ground.phase }], guard := none }) (v := ?_) rfl (Or.inl ⟨by rfl, ?_⟩) ?_; rotate_left; (focus (intro w hSw; (try dsimp only at hSw); go_simp; (try (with_reducible rfl)); done)); try simp only [Act.put, List.setIfInBounds_toArray, List.set_cons_zero, List.set_cons_succ])
  (refine wpL_calm (o := { dst := some 6, op := Go.Op.assign (Go.Operand.tmp 32), type := 47, pos := "law.go:104", after := #[{ on := 7, ground := Go.Ground.data }, { on := 13, ground := Go.Ground.chain }, { on := 0, ground := Go.Ground.phase }, { on := 1, ground := Go.Ground.phase }, { on := 2, ground := Go.Ground.phase }, { on := 3, ground := Go.Ground.phase }, { on := 4, ground := Go.Ground.phase }, { on := 5, ground := Go.Ground.phase }, { on := 6, ground := Go.Ground.phase }, { on := 7, ground := Go.Ground.phase }, { on := 8, ground := Go.Ground.textOnly Go.Departure.lateStores }, { on := 9, ground := Go.Ground.textOnly Go.Departure.lateStores }, { on := 10, ground := Go.Ground.phase }, { on := 11, ground := Go.Ground.phase }, { on := 12, ground := Go.Ground.phase }, { on := 13, ground := Go.Ground.phase }], guard := none }) (v := ?_) rfl (Or.inl ⟨by rfl, ?_⟩) ?_; rotate_left; (focus (intro w hSw; (try dsimp only at hSw); go_simp; (try (with_reducible rfl)); done)); try simp only [Act.put, List.setIfInBounds_toArray, List.set_cons_zero, List.set_cons_succ])
  (refine wpL_calm (o := { dst := some 7, op := Go.Op.assign (Go.Operand.tmp 34), type := 47, pos := "law.go:104", after := #[{ on := 9, ground := Go.Ground.data }, { on := 14, ground := Go.Ground.chain }, { on := 0, ground := Go.Ground.phase }, { on := 1, ground := Go.Ground.phase }, { on := 2, ground := Go.Ground.phase }, { on := 3, ground := Go.Ground.phase }, { on := 4, ground := Go.Ground.phase }, { on := 5, ground := Go.Ground.phase }, { on := 6, ground := Go.Ground.phase }, { on := 7, ground := Go.Ground.phase }, { on := 8, ground := Go.Ground.phase }, { on := 9, ground := Go.Ground.phase }, { on := 10, ground := Go.Ground.phase }, { on := 11, ground := Go.Ground.phase }, { on := 12, ground := Go.Ground.phase }, { on := 13, ground := Go.Ground.phase }, { on := 14, ground := Go.Ground.phase }], guard := none }) (v := ?_) rfl (Or.inl ⟨by rfl, ?_⟩) ?_; rotate_left; (focus (intro w hSw; (try dsimp only at hSw); go_simp; (try (with_reducible rfl)); done)); try simp only [Act.put, List.setIfInBounds_toArray, List.set_cons_zero, List.set_cons_succ])
  refine wpL_nil ?_
  refine NoPanic.normal ?_
  obtain ⟨w2, HW2, hd2, b2⟩ := stored_dg wd DA
  rw [HW2.out]
  clear HW2 hHeld
  have B2 := B1d.trans (b2.mono B1d.size)
  have HL3 : Hid (wd.heap.size < w2.heap.size) := Lib.hid (blk_ltC hd2)
  clear b2 B1d hR1d HRS HBA HBL
  generalize wd.heap.size = q3 at *
  clear ha
  go_wp2_with fail
  refine (new_x w2.heap.size w2 (Nat.le_refl _)).mono ?_
  rintro e w3 ⟨rfl, hX3, b3⟩
  obtain ⟨X0, S0, eX0, e0, l0, few0⟩ : ∃ X0 S0, (some ⟨w2.heap.size + 1, [], .slice none 0 0, .slice none 0 0, w2.heap.size, .map []⟩ : Option OrS) = X0 ∧ X0 = some S0 ∧ S0.l = [] ∧ FewX X0 0 := ⟨_, _, rfl, rfl, rfl, FewX.zero w2 _ _ _ _ _⟩
  rw [eX0] at hX3
  clear eX0
  have hf3 := hX3.freeLow q3 HL3.out
  have hX3' := hX3.weak B2.size
  have hd3 := blk_belowC b3 hd2
  have B3 := B2.trans (b3.mono B2.size)
  clear hX3 b3 hd2 B2
  generalize (⟨w2.heap.size + 1, 0, none⟩ : Addr) = og at *
  have l3 := OA.out.ld _ _ hd3
  go_wp2_with ((with_reducible refine wpList_load_arr_i (g := q3) (cs := DA) 34 _ rfl ?_ ?_ ?_); exact ⟨rfl, rfl⟩; assumption)
  refine (HNX.out _ _ X0 B3 hX3' (few0.mono (by omega))).mono ?_
  rintro e w4 ⟨X4, rfl, hX4, hS4, b4, K4⟩
  have hd4 := K4.keep _ _ hd3 hf3
  have hf4 := K4.free _ (blk_ltC hd3) hf3
  have B4 := B3.trans b4
  have few4 : FewX X4 1 := (hS4.few few0).mono (by have := HT1.out; omega)
  have HS4 := Lib.hid hS4
  clear hS4 b4 K4 hX3' hd3 hf3 B3 HNX l3
  obtain ⟨w5, HW_, hq9, b_⟩ := stored_dg w4 BD
  go_upto_region 6 with (refine wpList_store_row rfl _ _ _ rfl w4.heap.size BD rfl rfl 34 _ (heap_alloc_new _ _) (by rw [zB]; kernel_rfl) (by rw [zB, z32_sizeC]) oB ?_)
  rw [HW_.out]
  clear HW_
  have hd5 := blk_belowC b_ hd4
  have hX5 := hX4.below b_
  have hf59 := hX4.free _ (Nat.le_refl _)
  have B5 := B4.trans (b_.mono B4.size)
  clear b_ hd4 hX4 B4
  generalize w4.heap.size = q9 at *
  have l3 := OA.out.ld _ _ hd5
  go_wp2_with ((with_reducible refine wpList_load_arr_i (g := q3) (cs := DA) 34 _ rfl ?_ ?_ ?_); exact ⟨rfl, rfl⟩; assumption)
  refine (HNY.out _ _ X4 B5 hX5 (few4.mono (by omega))).mono ?_
  rintro e w6 ⟨X6, rfl, hX6, hS6, b6, K6⟩
  have hd6 := K6.keep _ _ hd5 hf4
  have hf6 := K6.free _ (blk_ltC hd5) hf4
  have hq96 := K6.keep _ _ hq9 hf59
  have B6 := B5.trans b6
  have few6 : FewX X6 2 := (hS6.few few4).mono (by have := HT2.out; omega)
  have HS6 := Lib.hid hS6
  clear hS6 b6 K6 hX5 hd5 hf4 hf59 hq9 B5 HNY l3 few4
  obtain ⟨w7, HW_, hq11, b_⟩ := stored_dg w6 BE
  go_upto_region 7 with (refine wpList_store_row rfl _ _ _ rfl w6.heap.size BE rfl rfl 34 _ (heap_alloc_new _ _) (by rw [zE]; kernel_rfl) (by rw [zE, z32_sizeC]) oE ?_)
  rw [HW_.out]
  clear HW_
  have hd7 := blk_belowC b_ hd6
  have hX7 := hX6.below b_
  have hq97 := blk_belowC b_ hq96
  have B7 := B6.trans (b_.mono B6.size)
  clear b_ hd6 hX6 hq96 B6
  generalize w6.heap.size = q11 at *
  go_cut [75] from 59 (fun s75 wx => ∃ cc, s75 = .bool cc ∧ Hid (cc = true → ∃ s t : List UInt8, s ∈ T1 ∧ t ∈ T2 ∧ s ≠ t ∧ sumL s = sumL t) ∧ Hid (Below w7.heap.size w7 wx))
  case first =>
    have lB := OB.out.ld _ _ hq97
    have lE := OE.out.ld _ _ hq11
    clear HL3 hd7 hf6
    cases e1 : okB L with
    | false =>
      obtain rfl := HB6.out e1
      clear lB lE
      go_wp2_with fail
      go_meet
      exact ⟨false, rfl, Lib.hid (fun h => by cases h), Lib.hid (Below.refl _ _)⟩
    | true =>
      obtain rfl := HB0.out e1
      cases e2 : okB M with
      | false =>
        obtain rfl := HE6.out e2
        clear lB lE
        go_wp2_with fail
        go_meet
        exact ⟨false, rfl, Lib.hid (fun h => by cases h), Lib.hid (Below.refl _ _)⟩
      | true =>
        obtain rfl := HE0.out e2
        have heq := HQ.out e1 e2
        by_cases e3 : nL = nM
        · rw [show (nL == nM) = true from by simpa using e3] at heq
          by_cases e4 : L = M
          · have HSY : Hid (∀ wc, Below w.heap.size w wc → Calls Tryd.prog 23 #[.slice la n c, .slice lb m d] wc fun e w' => e = .returned (.bool true) ∧ Below wc.heap.size wc w') := Lib.hid (fun wc hb => by have := HSM.out wc hb; rw [decide_eq_true e4] at this; exact this)
            clear HSM HC1
            go_wp2_with (first | ((with_reducible refine wpList_load_arr_i (g := q9) (cs := BD) 34 _ rfl ?_ ?_ ?_); exact ⟨rfl, rfl⟩; assumption) | ((with_reducible refine wpList_load_arr_i (g := q11) (cs := BE) 34 _ rfl ?_ ?_ ?_); exact ⟨rfl, rfl⟩; assumption))
            refine (HSY.out _ B7).mono ?_
            rintro e w8 ⟨rfl, b8⟩
            go_wp2_with fail
            go_meet
            exact ⟨false, rfl, Lib.hid (fun h => by cases h), Lib.hid b8⟩
          · have HSY : Hid (∀ wc, Below w.heap.size w wc → Calls Tryd.prog 23 #[.slice la n c, .slice lb m d] wc fun e w' => e = .returned (.bool false) ∧ Below wc.heap.size wc w') := Lib.hid (fun wc hb => by have := HSM.out wc hb; rw [decide_eq_false e4] at this; exact this)
            have HCX := Lib.hid (HC1.out e1 e2 e3 e4)
            clear HSM HC1
            go_wp2_with (first | ((with_reducible refine wpList_load_arr_i (g := q9) (cs := BD) 34 _ rfl ?_ ?_ ?_); exact ⟨rfl, rfl⟩; assumption) | ((with_reducible refine wpList_load_arr_i (g := q11) (cs := BE) 34 _ rfl ?_ ?_ ?_); exact ⟨rfl, rfl⟩; assumption))
            refine (HSY.out _ B7).mono ?_
            rintro e w8 ⟨rfl, b8⟩
            go_wp2_with fail
            go_meet
            exact ⟨true, rfl, Lib.hid (fun _ => HCX.out), Lib.hid b8⟩
        · rw [show (nL == nM) = false from by simpa using e3] at heq
          go_wp2_with (first | ((with_reducible refine wpList_load_arr_i (g := q9) (cs := BD) 34 _ rfl ?_ ?_ ?_); exact ⟨rfl, rfl⟩; assumption) | ((with_reducible refine wpList_load_arr_i (g := q11) (cs := BE) 34 _ rfl ?_ ?_ ?_); exact ⟨rfl, rfl⟩; assumption))
          go_meet
          exact ⟨false, rfl, Lib.hid (fun h => by cases h), Lib.hid (Below.refl _ _)⟩
  case rest =>
    obtain ⟨cc, rfl, HCC, HBX⟩ := hcut
    have hd8 := Lib.hid (blk_belowC HBX.out hd7)
    have hX8 := Lib.hid (hX7.below HBX.out)
    have B8 := Lib.hid (B7.trans (HBX.out.mono B7.size))
    clear hd7 hX7 B7 hq97 hq11 HB0 HB6 HE0 HE6 HQ HC1 HSM OB OE HBX
    generalize wc = wa at *
    go_upto_if 75 with fail
    go_cut [13, 14, 15] from 59 (fun s13 s14 s15 wx => Hid (Below wa.heap.size wa wx))
    case first =>
      cases cc with
      | false =>
        go_wp2_with fail
        go_meet
        exact Lib.hid (Below.refl _ _)
      | true =>
        obtain ⟨s, t, hs1, ht1, hne, hst⟩ := HCC.out rfl
        obtain ⟨S6, e6, ea, hP⟩ := hX8.out.some
        obtain ⟨S4, e4', _, m4, _⟩ := HS4.out.so S0 e0
        obtain ⟨S6', e6', _, m6, _⟩ := HS6.out.so S4 e4'
        rw [e6] at e6'
        cases e6'
        have HCO := Lib.hid (collide_told w.heap.size S6.g S6.l S6.tv S6.sv S6.b S6.D wa hP (by have := few6 S6 e6; omega) s t ((m6 s).2 (Or.inl ((m4 s).2 (Or.inr hs1)))) ((m6 t).2 (Or.inr ht1)) hne hst)
        rw [← ea] at HCO
        clear hP e6 ea m4 m6 hs1 ht1 hne hst HCC
        go_wp2_with fail
        refine HCO.out.mono ?_
        rintro e w9 ⟨s', t', rfl, b9⟩
        go_wp2_with fail
        go_meet
        exact Lib.hid b9
    case rest =>
    have BX := hcut.out
    have hd8 := blk_belowC BX hd8.out
    have hX8 := hX8.out.below BX
    have B8 := B8.out.trans (BX.mono B8.out.size)
    clear hcut BX HCC
    have l3 := OA.out.ld _ _ hd8
    go_wp2_with ((with_reducible refine wpList_load_arr_i (g := q3) (cs := DA) 34 _ rfl ?_ ?_ ?_); exact ⟨rfl, rfl⟩; assumption)
    refine (HAR.out _ _ X6 B8 hX8 (few6.mono (by omega))).mono ?_
    rintro e w9 ⟨X9, rfl, hX9, hS9, b9, K9⟩
    have hd9 := K9.keep _ _ hd8 hf6
    have hf9 := K9.free _ (blk_ltC hd8) hf6
    have B9 := B8.trans b9
    have few9 : FewX X9 8 := (hS9.few few6).mono (by have := HT3.out; omega)
    have HS9 := Lib.hid hS9
    clear hS9 b9 K9 hX8 hd8 hf6 B8 HAR l3
    obtain ⟨w10, HW_, hq16, b_⟩ := stored_dg w9 DR
    go_upto_region 14 with (refine wpList_store_row rfl _ _ _ rfl w9.heap.size DR rfl rfl 34 _ (heap_alloc_new _ _) (by rw [zR]; kernel_rfl) (by rw [zR, z32_sizeC]) oR ?_)
    rw [HW_.out]
    clear HW_
    have hd10 := blk_belowC b_ hd9
    have hX10 := hX9.below b_
    have hf1016 := hX9.free _ (Nat.le_refl _)
    have B10 := B9.trans (b_.mono B9.size)
    clear b_ hd9 hX9 B9
    generalize w9.heap.size = q16 at *
    have l3 := OA.out.ld _ _ hd10
    go_wp2_with ((with_reducible refine wpList_load_arr_i (g := q3) (cs := DA) 34 _ rfl ?_ ?_ ?_); exact ⟨rfl, rfl⟩; assumption)
    refine (HAQ.out _ _ X9 B10 hX10 (few9.mono (by omega))).mono ?_
    rintro e w11 ⟨X11, rfl, hX11, hS11, b11, K11⟩
    have hq1611 := K11.keep _ _ hq16 hf1016
    have B11 := B10.trans b11
    have few11 : FewX X11 14 := (hS11.few few9).mono (by have := HT4.out; omega)
    have HS11 := Lib.hid hS11
    clear hS11 b11 K11 hX10 hd10 hf9 hf1016 hq16 B10 HAQ l3
    obtain ⟨w12, HW_, hq18, b_⟩ := stored_dg w11 DQ
    go_upto_region 15 with (refine wpList_store_row rfl _ _ _ rfl w11.heap.size DQ rfl rfl 34 _ (heap_alloc_new _ _) (by rw [zQ]; kernel_rfl) (by rw [zQ, z32_sizeC]) oQ ?_)
    rw [HW_.out]
    clear HW_
    have hX12 := Lib.hid (hX11.below b_)
    have hq1612 := Lib.hid (blk_belowC b_ hq1611)
    have hq1812 := Lib.hid hq18
    have B12 := Lib.hid (B11.trans (b_.mono B11.size))
    clear b_ hX11 hq1611 B11 hq18
    generalize w11.heap.size = q18 at *
    go_wp2_with fail
    go_loopw [21, 20] (fun x s wi => ∃ i : Nat, x = .int .i64 (i : Int) ∧ i ≤ k ∧ s = .bool (smR R Q i) ∧ Hid (Below w12.heap.size w12 wi)) (fun x _ _ => k - (intOf x).toNat)
    case atStart => exact ⟨0, rfl, by omega, by rw [HS0.out], Lib.hid (Below.refl _ _)⟩
    case round =>
      obtain ⟨i, rfl, hi, rfl, HB⟩ := hrel
      by_cases hlt : i < k
      · have hli : (i : Int) < (k : Int) := by omega
        have HST := HSS.out i
        generalize hsm : smR R Q i = s at *
        cases s with
        | false =>
          as_aux_lemma =>
          have HST2 : Hid (smR R Q (i + 1) = false) := Lib.hid (by rw [HST]; rfl)
          clear HST hsm
          go_upto_region 19 with fail
          refine wp_region_lin (S := (fun _ => True)) [(0, true), (1, true), (2, true), (3, true), (4, true), (5, true), (6, true), (7, true), (8, true), (9, true), (10, false), (11, true), (12, true)] (by kernel_rfl) (by kernel_rfl) rfl (by kernel_rfl) ?_ (fun hHeld => ?_)
          · (try dsimp only); try exact trivial
          refine wpL_calm (o := { dst := some 121, op := Go.Op.move (Go.Operand.tmp 20), type := 4, pos := "law.go:123", after := #[], guard := none }) (v := ?_) rfl (Or.inl ⟨by rfl, ?_⟩) ?_; rotate_left; (focus (intro w hSw; (try dsimp only at hSw); go_simp; (try (with_reducible rfl)); done)); try simp only [Act.put, List.setIfInBounds_toArray, List.set_cons_zero, List.set_cons_succ]
          refine wpL_calm (o := { dst := some 122, op := Go.Op.move (Go.Operand.tmp 121), type := 4, pos := "law.go:123", after := #[{ on := 0, ground := Go.Ground.data }], guard := none }) (v := ?_) rfl (Or.inl ⟨by rfl, ?_⟩) ?_; rotate_left; (focus (intro w hSw; (try dsimp only at hSw); go_simp; (try (with_reducible rfl)); done)); try simp only [Act.put, List.setIfInBounds_toArray, List.set_cons_zero, List.set_cons_succ]
          refine wpL_calm (o := { dst := some 123, op := Go.Op.move (Go.Operand.tmp 6), type := 47, pos := "law.go:123", after := #[{ on := 1, ground := Go.Ground.guard }], guard := some (1, true) }) (v := undef) rfl (Or.inr ⟨by rfl, rfl⟩) ?_; try simp only [Act.put, List.setIfInBounds_toArray, List.set_cons_zero, List.set_cons_succ]
          refine wpL_calm (o := { dst := some 124, op := Go.Op.move (Go.Operand.tmp 21), type := 3, pos := "law.go:123", after := #[{ on := 1, ground := Go.Ground.guard }], guard := some (1, true) }) (v := undef) rfl (Or.inr ⟨by rfl, rfl⟩) ?_; try simp only [Act.put, List.setIfInBounds_toArray, List.set_cons_zero, List.set_cons_succ]
          refine wpL_calm (o := { dst := some 125, op := Go.Op.indexAddr 47 (Go.Operand.tmp 123) (Go.Operand.tmp 124), type := 0, pos := "law.go:123", after := #[{ on := 2, ground := Go.Ground.data }, { on := 3, ground := Go.Ground.data }, { on := 1, ground := Go.Ground.guard }], guard := some (1, true) }) (v := undef) rfl (Or.inr ⟨by rfl, rfl⟩) ?_; try simp only [Act.put, List.setIfInBounds_toArray, List.set_cons_zero, List.set_cons_succ]
          refine wpL_calm (o := { dst := some 126, op := Go.Op.load 25 (Go.Operand.tmp 125), type := 25, pos := "law.go:123", after := #[{ on := 4, ground := Go.Ground.data }, { on := 1, ground := Go.Ground.guard }], guard := some (1, true) }) (v := undef) rfl (Or.inr ⟨by rfl, rfl⟩) ?_; try simp only [Act.put, List.setIfInBounds_toArray, List.set_cons_zero, List.set_cons_succ]
          refine wpL_calm (o := { dst := some 127, op := Go.Op.move (Go.Operand.tmp 7), type := 47, pos := "law.go:123", after := #[{ on := 1, ground := Go.Ground.guard }], guard := some (1, true) }) (v := undef) rfl (Or.inr ⟨by rfl, rfl⟩) ?_; try simp only [Act.put, List.setIfInBounds_toArray, List.set_cons_zero, List.set_cons_succ]
          refine wpL_calm (o := { dst := some 128, op := Go.Op.move (Go.Operand.tmp 21), type := 3, pos := "law.go:123", after := #[{ on := 1, ground := Go.Ground.guard }], guard := some (1, true) }) (v := undef) rfl (Or.inr ⟨by rfl, rfl⟩) ?_; try simp only [Act.put, List.setIfInBounds_toArray, List.set_cons_zero, List.set_cons_succ]
          refine wpL_calm (o := { dst := some 129, op := Go.Op.indexAddr 47 (Go.Operand.tmp 127) (Go.Operand.tmp 128), type := 0, pos := "law.go:123", after := #[{ on := 6, ground := Go.Ground.data }, { on := 7, ground := Go.Ground.data }, { on := 1, ground := Go.Ground.guard }], guard := some (1, true) }) (v := undef) rfl (Or.inr ⟨by rfl, rfl⟩) ?_; try simp only [Act.put, List.setIfInBounds_toArray, List.set_cons_zero, List.set_cons_succ]
          refine wpL_calm (o := { dst := some 130, op := Go.Op.load 25 (Go.Operand.tmp 129), type := 25, pos := "law.go:123", after := #[{ on := 8, ground := Go.Ground.data }, { on := 1, ground := Go.Ground.guard }], guard := some (1, true) }) (v := undef) rfl (Or.inr ⟨by rfl, rfl⟩) ?_; try simp only [Act.put, List.setIfInBounds_toArray, List.set_cons_zero, List.set_cons_succ]
          refine wpL_loud1 (o := { dst := some 131, op := Go.Op.call { callee := Go.Callee.value (Go.Operand.func 23), args := #[Go.Operand.tmp 126, Go.Operand.tmp 130], argTypes := #[25, 25] }, type := 4, pos := "law.go:123", after := #[{ on := 5, ground := Go.Ground.data }, { on := 9, ground := Go.Ground.data }, { on := 1, ground := Go.Ground.chain }, { on := 1, ground := Go.Ground.guard }], guard := some (1, true) }) rfl (fun K hK => ?_)
          go_simp
          try go_wp2_with fail
          refine hK.out _ _ ?_ (fun hHeld => ?_)
          · (try dsimp only); try trivial
          clear hK K
          try simp only [Act.put, List.setIfInBounds_toArray, List.set_cons_zero, List.set_cons_succ]
          refine wpL_calm (o := { dst := some 132, op := Go.Op.pick (Go.Operand.tmp 122) (Go.Operand.tmp 131) (Go.Operand.const (Go.Value.bool false)), type := 4, pos := "law.go:123", after := #[{ on := 1, ground := Go.Ground.data }, { on := 10, ground := Go.Ground.data }], guard := none }) (v := ?_) rfl (Or.inl ⟨by rfl, ?_⟩) ?_; rotate_left; (focus (intro w hSw; (try dsimp only at hSw); go_simp; (try (with_reducible rfl)); done)); try simp only [Act.put, List.setIfInBounds_toArray, List.set_cons_zero, List.set_cons_succ]
          refine wpL_calm (o := { dst := some 20, op := Go.Op.assign (Go.Operand.tmp 132), type := 4, pos := "law.go:123", after := #[{ on := 11, ground := Go.Ground.data }, { on := 10, ground := Go.Ground.chain }, { on := 0, ground := Go.Ground.phase }, { on := 1, ground := Go.Ground.phase }, { on := 2, ground := Go.Ground.phase }, { on := 3, ground := Go.Ground.phase }, { on := 4, ground := Go.Ground.phase }, { on := 5, ground := Go.Ground.phase }, { on := 6, ground := Go.Ground.phase }, { on := 7, ground := Go.Ground.phase }, { on := 8, ground := Go.Ground.phase }, { on := 9, ground := Go.Ground.phase }, { on := 10, ground := Go.Ground.phase }, { on := 11, ground := Go.Ground.phase }], guard := none }) (v := ?_) rfl (Or.inl ⟨by rfl, ?_⟩) ?_; rotate_left; (focus (intro w hSw; (try dsimp only at hSw); go_simp; (try (with_reducible rfl)); done)); try simp only [Act.put, List.setIfInBounds_toArray, List.set_cons_zero, List.set_cons_succ]
          refine wpL_nil ?_
          refine NoPanic.normal ?_
          have B9 := Lib.hid (HB.out.drew)
          go_wp2_with fail
          go_roundw
          case rel => exact ⟨i + 1, by go_num, by omega, by rw [HST2.out], B9⟩
          case measure => simp [intOf]; omega
        | true =>
          as_aux_lemma =>
          have hiR : i < R.length := by rw [HLR.out]; exact hlt
          have hiQ : i < Q.length := by rw [HLQ.out]; exact hlt
          obtain ⟨gr, xr, rfl, hgr, hcr⟩ := HRR.out (by omega)
          obtain ⟨gq, xq, rfl, hgq, hcq⟩ := HQQ.out (by omega)
          obtain ⟨l1, c1, p1, p2, p3, p4⟩ := hcr i hiR
          obtain ⟨l2, c2, q1, q2, q3', q4⟩ := hcq i hiQ
          have BI := B12.out.trans (HB.out.mono B12.out.size)
          have k1 := (BI.cell (p := ⟨gr, xr + i, none⟩) hgr).trans p1
          have k2 := (BI.cell (p := ⟨gq, xq + i, none⟩) hgq).trans q1
          have HSI : Hid (∀ wc, Below w.heap.size w wc → Calls Tryd.prog 23 #[.slice l1 (R[i]).length c1, .slice l2 (Q[i]).length c2] wc fun e w' => e = .returned (.bool (decide (R[i] = Q[i]))) ∧ Below wc.heap.size wc w') := Lib.hid (fun wc hb => same_any R[i] Q[i] l1 l2 _ c1 _ c2 wc rfl rfl p3 q3' (p4.below hb) (q4.below hb))
          have HST2 : Hid (smR R Q (i + 1) = decide (R[i] = Q[i])) := Lib.hid (by rw [HST, List.getElem?_eq_getElem hiR, List.getElem?_eq_getElem hiQ]; rfl)
          clear HST hsm p1 p2 p3 p4 q1 q2 q3' q4 hcr hcq
          generalize decide (R[i] = Q[i]) = bb at *
          generalize (R[i]'hiR).length = nr at *
          generalize (Q[i]'hiQ).length = nq at *
          go_upto_region 19 with fail
          refine wp_region_lin (S := (fun w' => w'.cell? ⟨gr, xr + i, none⟩ = some (.slice l1 nr c1) ∧ w'.cell? ⟨gq, xq + i, none⟩ = some (.slice l2 nq c2))) [(0, true), (1, true), (2, true), (3, true), (4, true), (5, true), (6, true), (7, true), (8, true), (9, true), (10, false), (11, true), (12, true)] (by kernel_rfl) (by kernel_rfl) rfl (by kernel_rfl) ?_ (fun hHeld => ?_)
          · (try dsimp only); exact ⟨k1, k2⟩
          (refine wpL_calm (o := { dst := some 121, op := Go.Op.move (Go.Operand.tmp 20), type := 4, pos := "law.go:123", after := #[], guard := none }) (v := ?_) rfl (Or.inl ⟨by rfl, ?_⟩) ?_; rotate_left; (focus (intro w hSw; (try dsimp only at hSw); go_simp; (try (with_reducible rfl)); done)); try simp only [Act.put, List.setIfInBounds_toArray, List.set_cons_zero, List.set_cons_succ])
          (refine wpL_calm (o := { dst := some 122, op := Go.Op.move (Go.Operand.tmp 121), type := 4, pos := "law.go:123", after := #[{ on := 0, ground := Go.Ground.data }], guard := none }) (v := ?_) rfl (Or.inl ⟨by rfl, ?_⟩) ?_; rotate_left; (focus (intro w hSw; (try dsimp only at hSw); go_simp; (try (with_reducible rfl)); done)); try simp only [Act.put, List.setIfInBounds_toArray, List.set_cons_zero, List.set_cons_succ])
          first | (refine wpL_calm (o := { dst := some 123, op := Go.Op.move (Go.Operand.tmp 6), type := 47, pos := "law.go:123", after := #[{ on := 1, ground := Go.Ground.guard }], guard := some (1, true) }) (v := ?_) rfl (Or.inl ⟨by rfl, ?_⟩) ?_; rotate_left; (focus (intro w hSw; (try dsimp only at hSw); go_simp; (try (with_reducible rfl)); done)); try simp only [Act.put, List.setIfInBounds_toArray, List.set_cons_zero, List.set_cons_succ]) | (refine wpL_calm (o := { dst := some 123, op := Go.Op.move (Go.Operand.tmp 6), type := 47, pos := "law.go:123", after := #[{ on := 1, ground := Go.Ground.guard }], guard := some (1, true) }) (v := undef) rfl (Or.inr ⟨by rfl, rfl⟩) ?_; try simp only [Act.put, List.setIfInBounds_toArray, List.set_cons_zero, List.set_cons_succ])
          first | (refine wpL_calm (o := { dst := some 124, op := Go.Op.move (Go.Operand.tmp 21), type := 3, pos := "law.go:123", after := #[{ on := 1, ground := Go.Ground.guard }], guard := some (1, true) }) (v := ?_) rfl (Or.inl ⟨by rfl, ?_⟩) ?_; rotate_left; (focus (intro w hSw; (try dsimp only at hSw); go_simp; (try (with_reducible rfl)); done)); try simp only [Act.put, List.setIfInBounds_toArray, List.set_cons_zero, List.set_cons_succ]) | (refine wpL_calm (o := { dst := some 124, op := Go.Op.move (Go.Operand.tmp 21), type := 3, pos := "law.go:123", after := #[{ on := 1, ground := Go.Ground.guard }], guard := some (1, true) }) (v := undef) rfl (Or.inr ⟨by rfl, rfl⟩) ?_; try simp only [Act.put, List.setIfInBounds_toArray, List.set_cons_zero, List.set_cons_succ])
          first | (refine wpL_calm (o := { dst := some 125, op := Go.Op.indexAddr 47 (Go.Operand.tmp 123) (Go.Operand.tmp 124), type := 0, pos := "law.go:123", after := #[{ on := 2, ground := Go.Ground.data }, { on := 3, ground := Go.Ground.data }, { on := 1, ground := Go.Ground.guard }], guard := some (1, true) }) (v := ?_) rfl (Or.inl ⟨by rfl, ?_⟩) ?_; rotate_left; (focus (intro w hSw; (try dsimp only at hSw); go_simp; (try (with_reducible rfl)); done)); try simp only [Act.put, List.setIfInBounds_toArray, List.set_cons_zero, List.set_cons_succ]) | (refine wpL_calm (o := { dst := some 125, op := Go.Op.indexAddr 47 (Go.Operand.tmp 123) (Go.Operand.tmp 124), type := 0, pos := "law.go:123", after := #[{ on := 2, ground := Go.Ground.data }, { on := 3, ground := Go.Ground.data }, { on := 1, ground := Go.Ground.guard }], guard := some (1, true) }) (v := undef) rfl (Or.inr ⟨by rfl, rfl⟩) ?_; try simp only [Act.put, List.setIfInBounds_toArray, List.set_cons_zero, List.set_cons_succ])
          first | (refine wpL_calm (o := { dst := some 126, op := Go.Op.load 25 (Go.Operand.tmp 125), type := 25, pos := "law.go:123", after := #[{ on := 4, ground := Go.Ground.data }, { on := 1, ground := Go.Ground.guard }], guard := some (1, true) }) (v := ?_) rfl (Or.inl ⟨by rfl, ?_⟩) ?_; rotate_left; (focus (intro w hSw; (try dsimp only at hSw); go_simp; (try (with_reducible rfl)); done)); try simp only [Act.put, List.setIfInBounds_toArray, List.set_cons_zero, List.set_cons_succ]) | (refine wpL_calm (o := { dst := some 126, op := Go.Op.load 25 (Go.Operand.tmp 125), type := 25, pos := "law.go:123", after := #[{ on := 4, ground := Go.Ground.data }, { on := 1, ground := Go.Ground.guard }], guard := some (1, true) }) (v := undef) rfl (Or.inr ⟨by rfl, rfl⟩) ?_; try simp only [Act.put, List.setIfInBounds_toArray, List.set_cons_zero, List.set_cons_succ])
          first | (refine wpL_calm (o := { dst := some 127, op := Go.Op.move (Go.Operand.tmp 7), type := 47, pos := "law.go:123", after := #[{ on := 1, ground := Go.Ground.guard }], guard := some (1, true) }) (v := ?_) rfl (Or.inl ⟨by rfl, ?_⟩) ?_; rotate_left; (focus (intro w hSw; (try dsimp only at hSw); go_simp; (try (with_reducible rfl)); done)); try simp only [Act.put, List.setIfInBounds_toArray, List.set_cons_zero, List.set_cons_succ]) | (refine wpL_calm (o := { dst := some 127, op := Go.Op.move (Go.Operand.tmp 7), type := 47, pos := "law.go:123", after := #[{ on := 1, ground := Go.Ground.guard }], guard := some (1, true) }) (v := undef) rfl (Or.inr ⟨by rfl, rfl⟩) ?_; try simp only [Act.put, List.setIfInBounds_toArray, List.set_cons_zero, List.set_cons_succ])
          first | (refine wpL_calm (o := { dst := some 128, op := Go.Op.move (Go.Operand.tmp 21), type := 3, pos := "law.go:123", after := #[{ on := 1, ground := Go.Ground.guard }], guard := some (1, true) }) (v := ?_) rfl (Or.inl ⟨by rfl, ?_⟩) ?_; rotate_left; (focus (intro w hSw; (try dsimp only at hSw); go_simp; (try (with_reducible rfl)); done)); try simp only [Act.put, List.setIfInBounds_toArray, List.set_cons_zero, List.set_cons_succ]) | (refine wpL_calm (o := { dst := some 128, op := Go.Op.move (Go.Operand.tmp 21), type := 3, pos := "law.go:123", after := #[{ on := 1, ground := Go.Ground.guard }], guard := some (1, true) }) (v := undef) rfl (Or.inr ⟨by rfl, rfl⟩) ?_; try simp only [Act.put, List.setIfInBounds_toArray, List.set_cons_zero, List.set_cons_succ])
          first | (refine wpL_calm (o := { dst := some 129, op := Go.Op.indexAddr 47 (Go.Operand.tmp 127) (Go.Operand.tmp 128), type := 0, pos := "law.go:123", after := #[{ on := 6, ground := Go.Ground.data }, { on := 7, ground := Go.Ground.data }, { on := 1, ground := Go.Ground.guard }], guard := some (1, true) }) (v := ?_) rfl (Or.inl ⟨by rfl, ?_⟩) ?_; rotate_left; (focus (intro w hSw; (try dsimp only at hSw); go_simp; (try (with_reducible rfl)); done)); try simp only [Act.put, List.setIfInBounds_toArray, List.set_cons_zero, List.set_cons_succ]) | (refine wpL_calm (o := { dst := some 129, op := Go.Op.indexAddr 47 (Go.Operand.tmp 127) (Go.Operand.tmp 128), type := 0, pos := "law.go:123", after := #[{ on := 6, ground := Go.Ground.data }, { on := 7, ground := Go.Ground.data }, { on := 1, ground := Go.Ground.guard }], guard := some (1, true) }) (v := undef) rfl (Or.inr ⟨by rfl, rfl⟩) ?_; try simp only [Act.put, List.setIfInBounds_toArray, List.set_cons_zero, List.set_cons_succ])
          first | (refine wpL_calm (o := { dst := some 130, op := Go.Op.load 25 (Go.Operand.tmp 129), type := 25, pos := "law.go:123", after := #[{ on := 8, ground := Go.Ground.data }, { on := 1, ground := Go.Ground.guard }], guard := some (1, true) }) (v := ?_) rfl (Or.inl ⟨by rfl, ?_⟩) ?_; rotate_left; (focus (intro w hSw; (try dsimp only at hSw); go_simp; (try (with_reducible rfl)); done)); try simp only [Act.put, List.setIfInBounds_toArray, List.set_cons_zero, List.set_cons_succ]) | (refine wpL_calm (o := { dst := some 130, op := Go.Op.load 25 (Go.Operand.tmp 129), type := 25, pos := "law.go:123", after := #[{ on := 8, ground := Go.Ground.data }, { on := 1, ground := Go.Ground.guard }], guard := some (1, true) }) (v := undef) rfl (Or.inr ⟨by rfl, rfl⟩) ?_; try simp only [Act.put, List.setIfInBounds_toArray, List.set_cons_zero, List.set_cons_succ])
          refine wpL_loud1 (o := { dst := some 131, op := Go.Op.call { callee := Go.Callee.value (Go.Operand.func 23), args := #[Go.Operand.tmp 126, Go.Operand.tmp 130], argTypes := #[25, 25] }, type := 4, pos := "law.go:123", after := #[{ on := 5, ground := Go.Ground.data }, { on := 9, ground := Go.Ground.data }, { on := 1, ground := Go.Ground.chain }, { on := 1, ground := Go.Ground.guard }], guard := some (1, true) }) rfl (fun K hK => ?_)
          (go_simp; go_at_call 23; refine (HSI.out _ BI.drew).mono ?_; rintro e w' ⟨rfl, hb⟩)
          try go_wp2_with fail
          refine hK.out _ _ ?_ (fun hHeld => ?_)
          · (try dsimp only); exact ⟨(hb.cell (p := ⟨gr, xr + i, none⟩) (Nat.lt_of_lt_of_le hgr BI.drew.size)).trans k1, (hb.cell (p := ⟨gq, xq + i, none⟩) (Nat.lt_of_lt_of_le hgq BI.drew.size)).trans k2⟩
          clear hK K
          try simp only [Act.put, List.setIfInBounds_toArray, List.set_cons_zero, List.set_cons_succ]
          (refine wpL_calm (o := { dst := some 132, op := Go.Op.pick (Go.Operand.tmp 122) (Go.Operand.tmp 131) (Go.Operand.const (Go.Value.bool false)), type := 4, pos := "law.go:123", after := #[{ on := 1, ground := Go.Ground.data }, { on := 10, ground := Go.Ground.data }], guard := none }) (v := ?_) rfl (Or.inl ⟨by rfl, ?_⟩) ?_; rotate_left; (focus (intro w hSw; (try dsimp only at hSw); go_simp; (try (with_reducible rfl)); done)); try simp only [Act.put, List.setIfInBounds_toArray, List.set_cons_zero, List.set_cons_succ])
          (refine wpL_calm (o := { dst := some 20, op := Go.Op.assign (Go.Operand.tmp 132), type := 4, pos := "law.go:123", after := #[{ on := 11, ground := Go.Ground.data }, { on := 10, ground := Go.Ground.chain }, { on := 0, ground := Go.Ground.phase }, { on := 1, ground := Go.Ground.phase }, { on := 2, ground := Go.Ground.phase }, { on := 3, ground := Go.Ground.phase }, { on := 4, ground := Go.Ground.phase }, { on := 5, ground := Go.Ground.phase }, { on := 6, ground := Go.Ground.phase }, { on := 7, ground := Go.Ground.phase }, { on := 8, ground := Go.Ground.phase }, { on := 9, ground := Go.Ground.phase }, { on := 10, ground := Go.Ground.phase }, { on := 11, ground := Go.Ground.phase }], guard := none }) (v := ?_) rfl (Or.inl ⟨by rfl, ?_⟩) ?_; rotate_left; (focus (intro w hSw; (try dsimp only at hSw); go_simp; (try (with_reducible rfl)); done)); try simp only [Act.put, List.setIfInBounds_toArray, List.set_cons_zero, List.set_cons_succ])
          refine wpL_nil ?_
          refine NoPanic.normal ?_
          have B9 : Hid (Below w12.heap.size w12 w') := Lib.hid ((HB.out.drew).trans (hb.mono HB.out.drew.size))
          go_wp2_with fail
          go_roundw
          case rel => exact ⟨i + 1, by go_num, by omega, by rw [HST2.out], B9⟩
          case measure => simp [intOf]; omega
      · as_aux_lemma =>
        obtain rfl : i = k := by omega
        rw [HSF.out]
        have BW := B12.out.trans (HB.out.mono B12.out.size)
        have h16 := blk_belowC HB.out hq1612.out
        have h18 := blk_belowC HB.out hq1812.out
        have lR := OR.out.ld _ _ h16
        have lQ := OQ.out.ld _ _ h18
        cases e1 : okR R with
        | false =>
          obtain rfl := HG6.out e1
          clear lR lQ
          go_wp2_with fail
          refine (awake14 _ (hG.below BW)).mono ?_
          rintro e w14 ⟨rfl, b14⟩
          go_wp2_with fail
          go_ret
          exact ⟨rfl, BW.trans (b14.mono BW.size)⟩
        | true =>
          obtain rfl := HG0.out e1
          cases e2 : okR Q with
          | false =>
            obtain rfl := HH6.out e2
            clear lR lQ
            go_wp2_with fail
            refine (awake14 _ (hG.below BW)).mono ?_
            rintro e w14 ⟨rfl, b14⟩
            go_wp2_with fail
            go_ret
            exact ⟨rfl, BW.trans (b14.mono BW.size)⟩
          | true =>
            obtain rfl := HH0.out e2
            have hnq := HNQ.out e1 e2
            by_cases e3 : aR = aQ
            · rw [show (aR == aQ) = true from by simpa using e3] at hnq
              simp only [Bool.not_true] at hnq
              by_cases e4 : R = Q
              · rw [decide_eq_true e4]
                go_wp2_with (first | ((with_reducible refine wpList_load_arr_i (g := q16) (cs := DR) 34 _ rfl ?_ ?_ ?_); exact ⟨rfl, rfl⟩; assumption) | ((with_reducible refine wpList_load_arr_i (g := q18) (cs := DQ) 34 _ rfl ?_ ?_ ?_); exact ⟨rfl, rfl⟩; assumption))
                refine (awake14 _ (hG.below BW)).mono ?_
                rintro e w14 ⟨rfl, b14⟩
                go_wp2_with fail
                go_ret
                exact ⟨rfl, BW.trans (b14.mono BW.size)⟩
              · rw [decide_eq_false e4]
                obtain ⟨s, t, hs1, ht1, hne, hst⟩ := HC2.out e1 e2 e3 e4
                obtain ⟨S11, e11, ea, hP⟩ := (hX12.out.below HB.out).some
                obtain ⟨S4, e4', _, m4, _⟩ := HS4.out.so S0 e0
                obtain ⟨S6, e6', _, m6, _⟩ := HS6.out.so S4 e4'
                obtain ⟨S9, e9', _, m9, _⟩ := HS9.out.so S6 e6'
                obtain ⟨S11', e11', _, m11, _⟩ := HS11.out.so S9 e9'
                rw [e11] at e11'
                cases e11'
                have HCO := Lib.hid (collide_told w.heap.size S11.g S11.l S11.tv S11.sv S11.b S11.D wr hP (by have := few11 S11 e11; omega) s t ((m11 s).2 (Or.inl ((m9 s).2 (Or.inr hs1)))) ((m11 t).2 (Or.inr ht1)) hne hst)
                rw [← ea] at HCO
                clear hP e11 ea m4 m6 m9 m11 hs1 ht1 hne hst HC2
                go_wp2_with (first | ((with_reducible refine wpList_load_arr_i (g := q16) (cs := DR) 34 _ rfl ?_ ?_ ?_); exact ⟨rfl, rfl⟩; assumption) | ((with_reducible refine wpList_load_arr_i (g := q18) (cs := DQ) 34 _ rfl ?_ ?_ ?_); exact ⟨rfl, rfl⟩; assumption))
                refine HCO.out.mono ?_
                rintro e w13 ⟨s', t', rfl, b13⟩
                have BW := BW.trans (b13.mono BW.size)
                go_wp2_with fail
                refine (awake14 _ (hG.below BW)).mono ?_
                rintro e w14 ⟨rfl, b14⟩
                go_wp2_with fail
                go_ret
                exact ⟨rfl, BW.trans (b14.mono BW.size)⟩
            · rw [show (aR == aQ) = false from by simpa using e3] at hnq
              simp only [Bool.not_false] at hnq
              go_wp2_with (first | ((with_reducible refine wpList_load_arr_i (g := q16) (cs := DR) 34 _ rfl ?_ ?_ ?_); exact ⟨rfl, rfl⟩; assumption) | ((with_reducible refine wpList_load_arr_i (g := q18) (cs := DQ) 34 _ rfl ?_ ?_ ?_); exact ⟨rfl, rfl⟩; assumption))
              refine (awake14 _ (hG.below BW)).mono ?_
              rintro e w14 ⟨rfl, b14⟩
              go_wp2_with fail
              go_ret
              exact ⟨rfl, BW.trans (b14.mono BW.size)⟩
section
variable {H : Type} {enc : TypeId × Value → H}
set_option maxRecDepth 100000 in
theorem chainApart_walk {r : Reach} {b0 : Nat} (v : Value) (dd : DataW H) (p : List MemPlace) (w : World) (hok : Value.okWide Tryd.prog w r b0 51 v) (h : DataW.Trod enc Tryd.prog w 0 (fun _ => true) true 51 v dd p) (hG : Gl w) :
    Calls Tryd.prog 6 #[v] w fun e w' => e = .returned (.bool true) ∧ Below w.heap.size w w' := by
  obtain ⟨a, v1, v2, v3, v4, rfl, ha, ⟨la, n, c, L, rfl, hc, _, hn, hT⟩, ⟨lb, m, d, M, rfl, hd, _, hm, hU⟩, ⟨lr, k, e, R, rfl, _, _, hr, hR⟩, ⟨lq, j, f, Q, rfl, _, _, hq, hQ⟩⟩ := open_rowsC hok h
  by_cases hb1 : 100 < n
  · exact chainApart_big1 a la lb lr lq n c m d k e j f w hG ha hb1
  · by_cases hb2 : 100 < m
    · exact chainApart_big2 a la lb lr lq n c m d k e j f w hG ha hb1 hb2
    · by_cases hk : 6 < k
      · exact chainApart_short a L M R Q la lb lr lq n c m d k e j f w hG ha hn hc (by omega) hT hm hd (by omega) hU hr hR hq hQ hk
      · by_cases hkj : k = j
        · exact chainApart_long a L M R Q la lb lr lq n c m d k e j f w hG ha hn hc (by omega) hT hm hd (by omega) hU hr hR hq hQ (by omega) hkj
        · exact chainApart_short2 a L M R Q la lb lr lq n c m d k e j f w hG ha hn hc (by omega) hT hm hd (by omega) hU hr hR hq hQ (by omega) hkj
end
end Go.Proofs.YtaneecmfgfkaaaaDoor
