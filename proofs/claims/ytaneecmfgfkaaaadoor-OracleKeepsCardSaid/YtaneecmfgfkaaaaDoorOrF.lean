/- The oracle: Len, Input of one that keeps texts. -/
import Derived.Test.YtaneecmfgfkaaaaDoorOrE
namespace Go.Proofs.YtaneecmfgfkaaaaDoor
open Go.RowKit Go.Deep Go.Maps
set_option linter.unusedVariables false
set_option linter.unusedSimpArgs false
set_option maxRecDepth 100000 in
set_option maxHeartbeats 1000000 in
theorem orLen_any (base g : Nat) (l : List (List UInt8)) (tv sv : Value) (b : Nat) (D : DataW Unit) (w : World) (hP : OrP base w g l tv sv b D) : Calls Tryd.prog 15 #[.pointer (some ⟨g, 0, none⟩)] w fun e w' => e = .returned (.int .i64 (l.length : Int)) ∧ w = w' := by
  have c0 := cell_of_row w g 0 _ _ _ hP.hg
  obtain ⟨ta, tc, rfl, _, _⟩ := own_sl hP.ht
  clear hP
  generalize l.length = n at *
  go_enter Tryd.func15, Tryd.ntmps15
  go_wp2
  go_ret
  exact ⟨rfl, rfl⟩
set_option maxRecDepth 100000 in
set_option maxHeartbeats 2000000 in
theorem orInput_any (base g : Nat) (l : List (List UInt8)) (tv sv : Value) (b : Nat) (D : DataW Unit) (i : Nat) (hi : i < l.length) (hl : l.length ≤ 1000000) (w : World) (hP : OrP base w g l tv sv b D) : Calls Tryd.prog 16 #[.pointer (some ⟨g, 0, none⟩), .int .i64 (i : Int)] w fun e w' => e = .returned (.tuple #[.string ⟨(l[i]).toArray⟩, .agg (digA (sumL l[i])), .int .i64 0]) ∧ Below w.heap.size w w' := by
  have hz := zero_dig
  obtain ⟨w1, HW1, hr1, B1⟩ : ∃ w1, Hid (w.alloc (.cells z32 34) = w1) ∧ w1.heap[w.heap.size]? = some (.cells z32 34 (0, 0)) ∧ Below w.heap.size w w1 := ⟨_, Lib.hid rfl, heap_alloc_new _ _, (Below.refl _ _).alloc (Nat.le_refl _) _⟩
  have P1 := hP.below B1
  have hgw := (Array.getElem?_eq_some_iff.1 hP.hg).1
  obtain ⟨gt, ct, rfl, hct, hbt, hgt, hrt⟩ := own_rowG P1.ht (by omega)
  obtain ⟨gs, cs, rfl, hcs, hbs, hgs, hrs⟩ := own_rowG P1.hs (by omega)
  have hgtw := (hP.ht.lt gt rfl).2
  have hgsw := (hP.hs.lt gs rfl).2
  have c0 := cell_of_row w1 g 0 _ _ _ P1.hg
  have c1 := cell_of_row w1 g 1 _ _ _ P1.hg
  have hxt : w1.cell? ⟨gt, i, none⟩ = some (.string ⟨(l[i]).toArray⟩) := by
    have := hrt i (.string ⟨(l[i]).toArray⟩) (by rw [List.getElem?_map, List.getElem?_eq_getElem hi]; rfl)
    rwa [Nat.zero_add] at this
  have hr : w1.rangeAt gs (i * 32) (bv (sumL l[i])) := fun j u hu => by
    have hj : j < 32 := by have := (List.getElem?_eq_some_iff.1 hu).1; rwa [dig_len] at this
    have h2 := hrs (i * 32 + j) u (by rw [flat_at (fun x : List UInt8 => bv (sumL x)) 32 l i j hi (fun s _ => dig_len s) hj]; exact hu)
    rwa [Nat.zero_add] at h2
  have hD32 := Lib.hid (dig_len l[i])
  obtain ⟨hsz, hone⟩ := dig_ok' l[i]
  have HDG : Hid ((bv (sumL l[i])).toArray = digA (sumL l[i])) := Lib.hid rfl
  generalize bv (sumL l[i]) = BV at *
  generalize digA (sumL l[i]) = DG at *
  generalize (⟨(l[i]).toArray⟩ : ByteArray) = sx at *
  have hi1 : (i : Int) < (l.length : Int) := by omega
  have hi2 : ¬ (l.length : Int) ≤ (i : Int) := by omega
  have hi3 : (i : Int) ≤ 1000000 := by omega
  clear hrt hrs P1 hP
  generalize l.length = n at *
  have HR := Lib.hid hr
  clear hr
  go_enter Tryd.func16, Tryd.ntmps16
  go_upto_region 1 with fail
  rw [HW1.out]
  clear HW1
  go_wp2_with fail
  refine wp_region_lin (S := (fun w' => w'.cell? ⟨g, 0, none⟩ = some (.slice (some ⟨gt, 0, none⟩) n ct) ∧ w'.cell? ⟨g, 1, none⟩ = some (.slice (some ⟨gs, 0, none⟩) n cs) ∧ w'.cell? ⟨gt, i, none⟩ = some (.string sx) ∧ w'.rangeAt gs (i * 32) BV)) [(0, true), (1, true), (2, true), (3, true), (4, true), (5, true), (6, true), (7, true), (8, true), (9, true), (10, true), (11, true), (12, true), (13, true), (14, true), (15, false), (16, true)] (by kernel_rfl) (by kernel_rfl) rfl (by kernel_rfl) ?_ (fun hHeld => ?_)
  · (try dsimp only); exact ⟨c0, c1, hxt, HR.out⟩
  (refine wpL_calm (o := { dst := some 22, op := Go.Op.move (Go.Operand.tmp 0), type := 23, pos := "oracle.go:50", after := #[], guard := none }) (v := ?_) rfl (Or.inl ⟨by rfl, ?_⟩) ?_; rotate_left; (focus (intro w hSw; (try dsimp only at hSw); go_simp; (try (with_reducible rfl)); done)); try simp only [Act.put, List.setIfInBounds_toArray, List.set_cons_zero, List.set_cons_succ])
  (refine wpL_calm (o := { dst := some 23, op := Go.Op.nilCheck (Go.Operand.tmp 22), type := 0, pos := "oracle.go:50", after := #[{ on := 0, ground := Go.Ground.data }], guard := none }) (v := ?_) rfl (Or.inl ⟨by rfl, ?_⟩) ?_; rotate_left; (focus (intro w hSw; (try dsimp only at hSw); go_simp; (try (with_reducible rfl)); done)); try simp only [Act.put, List.setIfInBounds_toArray, List.set_cons_zero, List.set_cons_succ])
  (refine wpL_calm (o := { dst := some 24, op := Go.Op.fieldAddr 70 (Go.Operand.tmp 23) 0, type := 0, pos := "oracle.go:50", after := #[{ on := 1, ground := Go.Ground.data }], guard := none }) (v := ?_) rfl (Or.inl ⟨by rfl, ?_⟩) ?_; rotate_left; (focus (intro w hSw; (try dsimp only at hSw); go_simp; (try (with_reducible rfl)); done)); try simp only [Act.put, List.setIfInBounds_toArray, List.set_cons_zero, List.set_cons_succ])
  (refine wpL_calm (o := { dst := some 25, op := Go.Op.load 25 (Go.Operand.tmp 24), type := 25, pos := "oracle.go:50", after := #[{ on := 2, ground := Go.Ground.data }], guard := none }) (v := ?_) rfl (Or.inl ⟨by rfl, ?_⟩) ?_; rotate_left; (focus (intro w hSw; (try dsimp only at hSw); go_simp; (try (with_reducible rfl)); done)); try simp only [Act.put, List.setIfInBounds_toArray, List.set_cons_zero, List.set_cons_succ])
  (refine wpL_calm (o := { dst := some 26, op := Go.Op.move (Go.Operand.tmp 1), type := 3, pos := "oracle.go:50", after := #[], guard := none }) (v := ?_) rfl (Or.inl ⟨by rfl, ?_⟩) ?_; rotate_left; (focus (intro w hSw; (try dsimp only at hSw); go_simp; (try (with_reducible rfl)); done)); try simp only [Act.put, List.setIfInBounds_toArray, List.set_cons_zero, List.set_cons_succ])
  (refine wpL_calm (o := { dst := some 27, op := Go.Op.indexAddr 25 (Go.Operand.tmp 25) (Go.Operand.tmp 26), type := 0, pos := "oracle.go:50", after := #[{ on := 3, ground := Go.Ground.data }, { on := 4, ground := Go.Ground.data }], guard := none }) (v := ?_) rfl (Or.inl ⟨by rfl, ?_⟩) ?_; rotate_left; (focus (intro w hSw; (try dsimp only at hSw); go_simp; (try (with_reducible rfl)); done)); try simp only [Act.put, List.setIfInBounds_toArray, List.set_cons_zero, List.set_cons_succ])
  (refine wpL_calm (o := { dst := some 28, op := Go.Op.load 9 (Go.Operand.tmp 27), type := 9, pos := "oracle.go:50", after := #[{ on := 5, ground := Go.Ground.data }], guard := none }) (v := ?_) rfl (Or.inl ⟨by rfl, ?_⟩) ?_; rotate_left; (focus (intro w hSw; (try dsimp only at hSw); go_simp; (try (with_reducible rfl)); done)); try simp only [Act.put, List.setIfInBounds_toArray, List.set_cons_zero, List.set_cons_succ])
  (refine wpL_calm (o := { dst := some 29, op := Go.Op.move (Go.Operand.tmp 0), type := 23, pos := "oracle.go:50", after := #[{ on := 14, ground := Go.Ground.gcOnly Go.Departure.lateStores }], guard := none }) (v := ?_) rfl (Or.inl ⟨by rfl, ?_⟩) ?_; rotate_left; (focus (intro w hSw; (try dsimp only at hSw); go_simp; (try (with_reducible rfl)); done)); try simp only [Act.put, List.setIfInBounds_toArray, List.set_cons_zero, List.set_cons_succ])
  (refine wpL_calm (o := { dst := some 30, op := Go.Op.nilCheck (Go.Operand.tmp 29), type := 0, pos := "oracle.go:50", after := #[{ on := 7, ground := Go.Ground.data }, { on := 14, ground := Go.Ground.gcOnly Go.Departure.lateStores }], guard := none }) (v := ?_) rfl (Or.inl ⟨by rfl, ?_⟩) ?_; rotate_left; (focus (intro w hSw; (try dsimp only at hSw); go_simp; (try (with_reducible rfl)); done)); try simp only [Act.put, List.setIfInBounds_toArray, List.set_cons_zero, List.set_cons_succ])
  (refine wpL_calm (o := { dst := some 31, op := Go.Op.fieldAddr 70 (Go.Operand.tmp 30) 1, type := 0, pos := "oracle.go:50", after := #[{ on := 8, ground := Go.Ground.data }, { on := 14, ground := Go.Ground.gcOnly Go.Departure.lateStores }], guard := none }) (v := ?_) rfl (Or.inl ⟨by rfl, ?_⟩) ?_; rotate_left; (focus (intro w hSw; (try dsimp only at hSw); go_simp; (try (with_reducible rfl)); done)); try simp only [Act.put, List.setIfInBounds_toArray, List.set_cons_zero, List.set_cons_succ])
  (refine wpL_calm (o := { dst := some 32, op := Go.Op.load 54 (Go.Operand.tmp 31), type := 54, pos := "oracle.go:50", after := #[{ on := 9, ground := Go.Ground.data }, { on := 14, ground := Go.Ground.gcOnly Go.Departure.lateStores }], guard := none }) (v := ?_) rfl (Or.inl ⟨by rfl, ?_⟩) ?_; rotate_left; (focus (intro w hSw; (try dsimp only at hSw); go_simp; (try (with_reducible rfl)); done)); try simp only [Act.put, List.setIfInBounds_toArray, List.set_cons_zero, List.set_cons_succ])
  (refine wpL_calm (o := { dst := some 33, op := Go.Op.move (Go.Operand.tmp 1), type := 3, pos := "oracle.go:50", after := #[{ on := 14, ground := Go.Ground.gcOnly Go.Departure.lateStores }], guard := none }) (v := ?_) rfl (Or.inl ⟨by rfl, ?_⟩) ?_; rotate_left; (focus (intro w hSw; (try dsimp only at hSw); go_simp; (try (with_reducible rfl)); done)); try simp only [Act.put, List.setIfInBounds_toArray, List.set_cons_zero, List.set_cons_succ])
  (refine wpL_calm (o := { dst := some 34, op := Go.Op.indexAddr 54 (Go.Operand.tmp 32) (Go.Operand.tmp 33), type := 0, pos := "oracle.go:50", after := #[{ on := 10, ground := Go.Ground.data }, { on := 11, ground := Go.Ground.data }, { on := 14, ground := Go.Ground.gcOnly Go.Departure.lateStores }], guard := none }) (v := ?_) rfl (Or.inl ⟨by rfl, ?_⟩) ?_; rotate_left; (focus (intro w hSw; (try dsimp only at hSw); go_simp; (try (with_reducible rfl)); done)); try simp only [Act.put, List.setIfInBounds_toArray, List.set_cons_zero, List.set_cons_succ])
  refine wpL_calm (o := { dst := some 35, op := Go.Op.load 34 (Go.Operand.tmp 34), type := 34, pos := "oracle.go:50", after := #[{ on := 12, ground := Go.Ground.data }, { on := 14, ground := Go.Ground.gcOnly Go.Departure.lateStores }], guard := none }) rfl (yieldsIf_load_mid (by rfl) _ _ rfl gs (i * 32) rfl BV _ (fun _ h => h.2.2.2) Tryd.underlying34 rfl (by rw [hD32.out]; kernel_rfl)) ?_; rw [HDG.out]
  try simp only [Act.put, List.setIfInBounds_toArray, List.set_cons_zero, List.set_cons_succ]
  (refine wpL_calm (o := { dst := some 4, op := Go.Op.assign (Go.Operand.tmp 28), type := 9, pos := "oracle.go:50", after := #[{ on := 6, ground := Go.Ground.data }, { on := 0, ground := Go.Ground.phase }, { on := 1, ground := Go.Ground.phase }, { on := 2, ground := Go.Ground.phase }, { on := 3, ground := Go.Ground.phase }, { on := 4, ground := Go.Ground.phase }, { on := 5, ground := Go.Ground.phase }, { on := 6, ground := Go.Ground.phase }, { on := 7, ground := Go.Ground.textOnly Go.Departure.lateStores }, { on := 8, ground := Go.Ground.textOnly Go.Departure.lateStores }, { on := 9, ground := Go.Ground.textOnly Go.Departure.lateStores }, { on := 10, ground := Go.Ground.textOnly Go.Departure.lateStores }, { on := 11, ground := Go.Ground.textOnly Go.Departure.lateStores }, { on := 12, ground := Go.Ground.textOnly Go.Departure.lateStores }, { on := 13, ground := Go.Ground.textOnly Go.Departure.lateStores }], guard := none }) (v := ?_) rfl (Or.inl ⟨by rfl, ?_⟩) ?_; rotate_left; (focus (intro w hSw; (try dsimp only at hSw); go_simp; (try (with_reducible rfl)); done)); try simp only [Act.put, List.setIfInBounds_toArray, List.set_cons_zero, List.set_cons_succ])
  refine wpL_loud1 (o := { dst := none, op := Go.Op.store 34 (Go.Operand.tmp 5) (Go.Operand.tmp 35), type := 0, pos := "oracle.go:50", after := #[{ on := 13, ground := Go.Ground.data }, { on := 14, ground := Go.Ground.chain }, { on := 0, ground := Go.Ground.phase }, { on := 1, ground := Go.Ground.phase }, { on := 2, ground := Go.Ground.phase }, { on := 3, ground := Go.Ground.phase }, { on := 4, ground := Go.Ground.phase }, { on := 5, ground := Go.Ground.phase }, { on := 6, ground := Go.Ground.phase }, { on := 7, ground := Go.Ground.phase }, { on := 8, ground := Go.Ground.phase }, { on := 9, ground := Go.Ground.phase }, { on := 10, ground := Go.Ground.phase }, { on := 11, ground := Go.Ground.phase }, { on := 12, ground := Go.Ground.phase }, { on := 13, ground := Go.Ground.phase }, { on := 14, ground := Go.Ground.phase }], guard := none }) rfl (fun K hK => ?_)
  (rw [if_pos (by rfl)]; refine wp_store_row _ _ _ rfl w.heap.size DG rfl rfl 34 _ (show w1.drew.heap[w.heap.size]? = _ from hr1) (by rw [hsz]; kernel_rfl) (by rw [hsz]; rfl) hone ?_)
  refine hK.out _ _ ?_ (fun hHeld => ?_)
  · (try dsimp only); exact ⟨(cell_setRow_other _ _ _ _ (by show g ≠ w.heap.size; omega)).trans c0, (cell_setRow_other _ _ _ _ (by show g ≠ w.heap.size; omega)).trans c1, (cell_setRow_other _ _ _ _ (by show gt ≠ w.heap.size; omega)).trans hxt, fun j u hu => (cell_setRow_other _ _ _ _ (by show gs ≠ w.heap.size; omega)).trans (HR.out j u hu)⟩
  clear hK K
  try simp only [Act.put, List.setIfInBounds_toArray, List.set_cons_zero, List.set_cons_succ]
  (refine wpL_calm (o := { dst := some 6, op := Go.Op.assign (Go.Operand.const (Go.Value.int Go.IntKind.i64 0)), type := 30, pos := "oracle.go:50", after := #[{ on := 15, ground := Go.Ground.chain }, { on := 0, ground := Go.Ground.phase }, { on := 1, ground := Go.Ground.phase }, { on := 2, ground := Go.Ground.phase }, { on := 3, ground := Go.Ground.phase }, { on := 4, ground := Go.Ground.phase }, { on := 5, ground := Go.Ground.phase }, { on := 6, ground := Go.Ground.phase }, { on := 7, ground := Go.Ground.phase }, { on := 8, ground := Go.Ground.phase }, { on := 9, ground := Go.Ground.phase }, { on := 10, ground := Go.Ground.phase }, { on := 11, ground := Go.Ground.phase }, { on := 12, ground := Go.Ground.phase }, { on := 13, ground := Go.Ground.phase }, { on := 14, ground := Go.Ground.phase }, { on := 15, ground := Go.Ground.phase }], guard := none }) (v := ?_) rfl (Or.inl ⟨by rfl, ?_⟩) ?_; rotate_left; (focus (intro w hSw; (try dsimp only at hSw); go_simp; (try (with_reducible rfl)); done)); try simp only [Act.put, List.setIfInBounds_toArray, List.set_cons_zero, List.set_cons_succ])
  refine wpL_nil ?_
  refine NoPanic.normal ?_
  go_wp2_with fail
  refine bodyPost_ret_by (results_tct rfl _ _ w.heap.size 34 DG (0, 0) _ rfl (setRow_heap _ _ _ DG 34 (0, 0) (show w1.drew.heap[w.heap.size]? = _ from hr1)) Tryd.underlying34 rfl (by rw [hsz]; kernel_rfl)) rfl ⟨rfl, ?_⟩
  exact below_setRow B1.drew (Nat.le_refl _) _
end Go.Proofs.YtaneecmfgfkaaaaDoor
