/- The law ViewDiffers. -/
import Derived.Test.YtapmnacggpcffaaVwM
namespace Go.Proofs.Ytapmnacggpcffaa
open Go.ChangeShapes Go.WideShapes Go.Deep Go.RowKit
set_option linter.unusedVariables false
set_option linter.unusedSimpArgs false
theorem wp_store_new {P : Program} {o : Oper} {a : Act} {w : World} {K : Act → World → Prop} {Q : Exit → Act → World → Prop} (ty : TypeId) (x y : Operand) (ho : o.op = .store ty x y)
    (g : Nat) (cells : Array Value) (hx : a.eval x = .pointer (some ⟨g, 0, none⟩)) (hy : a.eval y = .agg cells)
    (t : TypeId) (old : Array Value) (hg : w.heap[g]? = some (.cells old t (0, 0))) (hi : (P.info? ty).map (·.size) = some cells.size)
    (hold : old.size = cells.size) (h1 : cells.all (·.oneCell') = true)
    (h : ∀ w2, w2.heap[g]? = some (.cells cells t (0, 0)) → Below g w w2 → K (a.put o.dst undef) w2) : o.wp P a w K Q :=
  wp_store_row ty x y ho g cells hx hy t old hg hi hold h1 (h _ (setRow_heap w g old cells t (0, 0) hg) (below_setRow (Below.refl _ _) (Nat.le_refl _) _))
def fourA (l m : Value) (slow : Bool) (f : Nat → UInt8) : Array Value := (l :: m :: .bool slow :: ckC f).toArray
def ckB (f : Nat → UInt8) : ByteArray := ⟨((List.range 32).map f).toArray⟩
theorem ckB_size (f : Nat → UInt8) : (ckB f).size = 32 := by unfold ckB; rw [bytes_size, List.length_map, List.length_range]
theorem ck_conv (f : Nat → UInt8) (g : Nat) (w : World) (h : w.heap[g]? = some (.cells (ckC f).toArray 36 (0, 0))) : (convert 43 9 (.slice (some ⟨g, 0, none⟩) 32 32)).run Try.prog w = .ok (.string (ckB f)) w := by
  have := run_convert_bytes_back (P := Try.prog) w 43 9 5 ⟨g, 0, none⟩ 32 ((List.range 32).map f) Try.underlying43 Try.underlying5 Try.underlying9 (fun j hj => by
    rw [List.length_map, List.length_range] at hj
    rw [Addr.add_lit, Nat.zero_add, cell_of_row w g j _ _ _ h, List.getElem?_toArray]
    unfold ckC
    rw [List.getElem?_map, List.getElem?_range hj]
    simp)
  rw [List.length_map, List.length_range] at this
  exact this
theorem bx_alloc {w : World} {gx : Nat} {vl vm v2 : Value} {ck : List Value} (h : gx < w.heap.size ∧ w.cell? ⟨gx, 0, none⟩ = some vl ∧ w.cell? ⟨gx, 1, none⟩ = some vm ∧ w.cell? ⟨gx, 2, none⟩ = some v2 ∧ w.rangeAt gx 3 ck) (o : Obj) : gx < (w.alloc o).heap.size ∧ (w.alloc o).cell? ⟨gx, 0, none⟩ = some vl ∧ (w.alloc o).cell? ⟨gx, 1, none⟩ = some vm ∧ (w.alloc o).cell? ⟨gx, 2, none⟩ = some v2 ∧ (w.alloc o).rangeAt gx 3 ck := by
  have b : Below w.heap.size w (w.alloc o) := (Below.refl _ _).alloc (Nat.le_refl _) _
  exact ⟨Nat.lt_of_lt_of_le h.1 b.size, (b.cell (p := ⟨gx, 0, none⟩) h.1).trans h.2.1, (b.cell (p := ⟨gx, 1, none⟩) h.1).trans h.2.2.1, (b.cell (p := ⟨gx, 2, none⟩) h.1).trans h.2.2.2.1, fun j u hu => (b.cell (p := ⟨gx, 3 + j, none⟩) h.1).trans (h.2.2.2.2 j u hu)⟩
attribute [local irreducible] fourA ckC ckB imgT difL
set_option maxRecDepth 100000 in
set_option maxHeartbeats 16000000 in
theorem viewDiffers_any (aL aM : Option Addr) (cL cM : Nat) (L M : List Cg) (slow : Bool) (f : Nat → UInt8) (w : World) (hL : CgAt w aL L) (hLn : L.length ≤ maxLen) (hM : CgAt w aM M) (hMn : M.length ≤ maxLen) :
    Calls Try.prog 4 #[.agg (fourA (.slice aL L.length cL) (.slice aM M.length cM) slow f)] w fun e w' => e = .returned (.bool true) ∧ Below w.heap.size w w' := by
  have HL := Lib.hid hL
  have HM := Lib.hid hM
  have hLn' : L.length ≤ 9223372036854775807 := by unfold maxLen at hLn; omega
  have hMn' : M.length ≤ 9223372036854775807 := by unfold maxLen at hMn; omega
  have CIL := Lib.hid (fun w' h => image_any aL cL L w' h hLn')
  have CIM := Lib.hid (fun w' h => image_any aM cM M w' h hMn')
  have hA := imgT_size L
  have hB := imgT_size M
  generalize imgT L = A at *
  generalize imgT M = B at *
  obtain ⟨vl, hvl⟩ : ∃ vl, Value.slice aL L.length cL = vl := ⟨_, rfl⟩
  obtain ⟨vm, hvm⟩ : ∃ vm, Value.slice aM M.length cM = vm := ⟨_, rfl⟩
  rw [hvl, hvm]
  obtain ⟨w1, hw1⟩ : ∃ w1, w.alloc (.cells (fourA vl vm slow f) 38) = w1 := ⟨_, rfl⟩
  have hrow1 : w1.heap[w.heap.size]? = some (.cells (fourA vl vm slow f) 38 (0, 0)) := by rw [← hw1]; exact heap_alloc_new _ _
  have B1 : Below w.heap.size w w1 := by rw [← hw1]; exact (Below.refl _ _).alloc (Nat.le_refl _) _
  obtain ⟨gx, hgx⟩ : ∃ gx, Hid (w.heap.size = gx) := ⟨_, Lib.hid rfl⟩
  rw [hgx.out] at hrow1
  have hgl := (Array.getElem?_eq_some_iff.1 hrow1).1
  have hbx : gx < w1.heap.size ∧ w1.cell? ⟨gx, 0, none⟩ = some vl ∧ w1.cell? ⟨gx, 1, none⟩ = some vm ∧ w1.cell? ⟨gx, 2, none⟩ = some (.bool slow) ∧ w1.rangeAt gx 3 (ckC f) :=
    ⟨hgl, (cell_of_row w1 gx 0 _ _ _ hrow1).trans (by unfold fourA; rfl), (cell_of_row w1 gx 1 _ _ _ hrow1).trans (by unfold fourA; rfl), (cell_of_row w1 gx 2 _ _ _ hrow1).trans (by unfold fourA; rfl), fun j u hu => (cell_of_row w1 gx (3 + j) _ _ _ hrow1).trans (by unfold fourA; rw [List.getElem?_toArray, show 3 + j = j + 1 + 1 + 1 by omega]; exact hu)⟩
  have HB1 := Lib.hid B1
  have HW1 := Lib.hid hw1
  have hckl := ckC_len f
  have hcks : (Try.prog.info? 36).map (·.size) = some (ckC f).toArray.size := by rw [List.size_toArray]; exact ck_size f
  have hone := ckC_one f
  have hold : (ckC f).toArray.size = 32 := by rw [List.size_toArray, hckl]
  clear hw1 B1 hrow1 hL hM hLn hMn
  go_enter Try.func4, Try.ntmps4
  go_upto_region 1 with fail
  rw [HW1.out, hgx.out]
  clear HW1
  refine wp_region_lin (S := (fun w' => gx < w'.heap.size ∧ w'.cell? ⟨gx, 0, none⟩ = some vl ∧ w'.cell? ⟨gx, 1, none⟩ = some vm ∧ w'.cell? ⟨gx, 2, none⟩ = some (.bool slow) ∧ w'.rangeAt gx 3 (ckC f))) [(0, true), (1, true), (2, true), (3, true), (4, true), (5, true), (6, true), (7, true), (8, false), (9, true), (10, true), (11, true), (12, false)] (by kernel_rfl) (by kernel_rfl) rfl (by kernel_rfl) ?_ (fun hHeld => ?_)
  · (try dsimp only); exact hbx
  (refine wpL_calm (o := { dst := some 22, op := Go.Op.fieldAddr 38 (Go.Operand.tmp 1) 0, type := 0, pos := "law.go:77", after := #[], guard := none }) (v := ?_) rfl (Or.inl ⟨by rfl, ?_⟩) ?_; rotate_left; (focus (intro w hSw; (try dsimp only at hSw); go_simp; (try (with_reducible rfl)); done)); try simp only [Act.put, List.setIfInBounds_toArray, List.set_cons_zero, List.set_cons_succ])
  (refine wpL_calm (o := { dst := some 23, op := Go.Op.load 22 (Go.Operand.tmp 22), type := 22, pos := "law.go:77", after := #[{ on := 0, ground := Go.Ground.data }], guard := none }) (v := ?_) rfl (Or.inl ⟨by rfl, ?_⟩) ?_; rotate_left; (focus (intro w hSw; (try dsimp only at hSw); go_simp; (try (with_reducible rfl)); done)); try simp only [Act.put, List.setIfInBounds_toArray, List.set_cons_zero, List.set_cons_succ])
  (refine wpL_calm (o := { dst := some 24, op := Go.Op.fieldAddr 38 (Go.Operand.tmp 1) 1, type := 0, pos := "law.go:77", after := #[{ on := 9, ground := Go.Ground.gcOnly Go.Departure.lateStores }], guard := none }) (v := ?_) rfl (Or.inl ⟨by rfl, ?_⟩) ?_; rotate_left; (focus (intro w hSw; (try dsimp only at hSw); go_simp; (try (with_reducible rfl)); done)); try simp only [Act.put, List.setIfInBounds_toArray, List.set_cons_zero, List.set_cons_succ])
  (refine wpL_calm (o := { dst := some 25, op := Go.Op.load 22 (Go.Operand.tmp 24), type := 22, pos := "law.go:77", after := #[{ on := 2, ground := Go.Ground.data }, { on := 9, ground := Go.Ground.gcOnly Go.Departure.lateStores }], guard := none }) (v := ?_) rfl (Or.inl ⟨by rfl, ?_⟩) ?_; rotate_left; (focus (intro w hSw; (try dsimp only at hSw); go_simp; (try (with_reducible rfl)); done)); try simp only [Act.put, List.setIfInBounds_toArray, List.set_cons_zero, List.set_cons_succ])
  (refine wpL_calm (o := { dst := some 26, op := Go.Op.fieldAddr 38 (Go.Operand.tmp 1) 2, type := 0, pos := "law.go:77", after := #[{ on := 10, ground := Go.Ground.gcOnly Go.Departure.lateStores }], guard := none }) (v := ?_) rfl (Or.inl ⟨by rfl, ?_⟩) ?_; rotate_left; (focus (intro w hSw; (try dsimp only at hSw); go_simp; (try (with_reducible rfl)); done)); try simp only [Act.put, List.setIfInBounds_toArray, List.set_cons_zero, List.set_cons_succ])
  (refine wpL_calm (o := { dst := some 27, op := Go.Op.load 4 (Go.Operand.tmp 26), type := 4, pos := "law.go:77", after := #[{ on := 4, ground := Go.Ground.data }, { on := 10, ground := Go.Ground.gcOnly Go.Departure.lateStores }], guard := none }) (v := ?_) rfl (Or.inl ⟨by rfl, ?_⟩) ?_; rotate_left; (focus (intro w hSw; (try dsimp only at hSw); go_simp; (try (with_reducible rfl)); done)); try simp only [Act.put, List.setIfInBounds_toArray, List.set_cons_zero, List.set_cons_succ])
  (refine wpL_calm (o := { dst := some 28, op := Go.Op.fieldAddr 38 (Go.Operand.tmp 1) 3, type := 0, pos := "law.go:77", after := #[{ on := 11, ground := Go.Ground.gcOnly Go.Departure.lateStores }], guard := none }) (v := ?_) rfl (Or.inl ⟨by rfl, ?_⟩) ?_; rotate_left; (focus (intro w hSw; (try dsimp only at hSw); go_simp; (try (with_reducible rfl)); done)); try simp only [Act.put, List.setIfInBounds_toArray, List.set_cons_zero, List.set_cons_succ])
  refine wpL_calm (o := { dst := some 29, op := Go.Op.load 36 (Go.Operand.tmp 28), type := 36, pos := "law.go:77", after := #[{ on := 6, ground := Go.Ground.data }, { on := 11, ground := Go.Ground.gcOnly Go.Departure.lateStores }], guard := none }) rfl (yieldsIf_load_mid (by rfl) _ _ rfl gx 3 rfl (ckC f) _ (fun _ h => h.2.2.2.2) Try.underlying36 rfl (ck_size f)) ?_
  try simp only [Act.put, List.setIfInBounds_toArray, List.set_cons_zero, List.set_cons_succ]
  refine wpL_loud1 (o := { dst := some 6, op := Go.Op.alloc 36, type := 0, pos := "law.go:77", after := #[], guard := none }) rfl (fun K hK => ?_)
  go_simp
  refine hK.out _ _ ?_ (fun hHeld => ?_)
  · (try dsimp only); exact bx_alloc hHeld _
  clear hK K
  try simp only [Act.put, List.setIfInBounds_toArray, List.set_cons_zero, List.set_cons_succ]
  (refine wpL_calm (o := { dst := some 3, op := Go.Op.assign (Go.Operand.tmp 23), type := 22, pos := "law.go:77", after := #[{ on := 1, ground := Go.Ground.data }, { on := 0, ground := Go.Ground.phase }, { on := 1, ground := Go.Ground.phase }, { on := 2, ground := Go.Ground.textOnly Go.Departure.lateStores }, { on := 3, ground := Go.Ground.textOnly Go.Departure.lateStores }, { on := 4, ground := Go.Ground.textOnly Go.Departure.lateStores }, { on := 5, ground := Go.Ground.textOnly Go.Departure.lateStores }, { on := 6, ground := Go.Ground.textOnly Go.Departure.lateStores }, { on := 7, ground := Go.Ground.textOnly Go.Departure.lateStores }, { on := 8, ground := Go.Ground.phase }], guard := none }) (v := ?_) rfl (Or.inl ⟨by rfl, ?_⟩) ?_; rotate_left; (focus (intro w hSw; (try dsimp only at hSw); go_simp; (try (with_reducible rfl)); done)); try simp only [Act.put, List.setIfInBounds_toArray, List.set_cons_zero, List.set_cons_succ])
  (refine wpL_calm (o := { dst := some 4, op := Go.Op.assign (Go.Operand.tmp 25), type := 22, pos := "law.go:77", after := #[{ on := 3, ground := Go.Ground.data }, { on := 9, ground := Go.Ground.chain }, { on := 0, ground := Go.Ground.phase }, { on := 1, ground := Go.Ground.phase }, { on := 2, ground := Go.Ground.phase }, { on := 3, ground := Go.Ground.phase }, { on := 4, ground := Go.Ground.textOnly Go.Departure.lateStores }, { on := 5, ground := Go.Ground.textOnly Go.Departure.lateStores }, { on := 6, ground := Go.Ground.textOnly Go.Departure.lateStores }, { on := 7, ground := Go.Ground.textOnly Go.Departure.lateStores }, { on := 8, ground := Go.Ground.phase }, { on := 9, ground := Go.Ground.phase }], guard := none }) (v := ?_) rfl (Or.inl ⟨by rfl, ?_⟩) ?_; rotate_left; (focus (intro w hSw; (try dsimp only at hSw); go_simp; (try (with_reducible rfl)); done)); try simp only [Act.put, List.setIfInBounds_toArray, List.set_cons_zero, List.set_cons_succ])
  (refine wpL_calm (o := { dst := some 5, op := Go.Op.assign (Go.Operand.tmp 27), type := 4, pos := "law.go:77", after := #[{ on := 5, ground := Go.Ground.data }, { on := 10, ground := Go.Ground.chain }, { on := 0, ground := Go.Ground.phase }, { on := 1, ground := Go.Ground.phase }, { on := 2, ground := Go.Ground.phase }, { on := 3, ground := Go.Ground.phase }, { on := 4, ground := Go.Ground.phase }, { on := 5, ground := Go.Ground.phase }, { on := 6, ground := Go.Ground.textOnly Go.Departure.lateStores }, { on := 7, ground := Go.Ground.textOnly Go.Departure.lateStores }, { on := 8, ground := Go.Ground.phase }, { on := 9, ground := Go.Ground.phase }, { on := 10, ground := Go.Ground.phase }], guard := none }) (v := ?_) rfl (Or.inl ⟨by rfl, ?_⟩) ?_; rotate_left; (focus (intro w hSw; (try dsimp only at hSw); go_simp; (try (with_reducible rfl)); done)); try simp only [Act.put, List.setIfInBounds_toArray, List.set_cons_zero, List.set_cons_succ])
  refine wpL_loud0 (o := { dst := none, op := Go.Op.store 36 (Go.Operand.tmp 6) (Go.Operand.tmp 29), type := 0, pos := "law.go:77", after := #[{ on := 8, ground := Go.Ground.data }, { on := 7, ground := Go.Ground.data }, { on := 11, ground := Go.Ground.chain }, { on := 0, ground := Go.Ground.phase }, { on := 1, ground := Go.Ground.phase }, { on := 2, ground := Go.Ground.phase }, { on := 3, ground := Go.Ground.phase }, { on := 4, ground := Go.Ground.phase }, { on := 5, ground := Go.Ground.phase }, { on := 6, ground := Go.Ground.phase }, { on := 7, ground := Go.Ground.phase }, { on := 8, ground := Go.Ground.phase }, { on := 9, ground := Go.Ground.phase }, { on := 10, ground := Go.Ground.phase }, { on := 11, ground := Go.Ground.phase }], guard := none }) rfl (by kernel_rfl) (fun K hK => ?_)
  (rw [if_pos (by rfl)]; refine wp_store_new _ _ _ rfl w1.heap.size (ckC f).toArray rfl rfl 36 _ (heap_alloc_new _ _) hcks (by rw [hold]; rfl) hone ?_; intro w2 hrow2 hbel2)
  refine hK.out _ _ ?_
  clear hK K
  try simp only [Act.put, List.setIfInBounds_toArray, List.set_cons_zero, List.set_cons_succ]
  refine wpL_nil ?_
  refine NoPanic.normal ?_
  have b12 := (((Below.refl w1.heap.size w1).drew.alloc (Nat.le_refl _) _).trans hbel2)
  have HB2 := Lib.hid (HB1.out.trans (b12.mono HB1.out.size))
  obtain ⟨gk, hgk⟩ : ∃ gk, Hid (w1.heap.size = gk) := ⟨_, Lib.hid rfl⟩
  have hgk2 := (Array.getElem?_eq_some_iff.1 hrow2).1
  try rw [hgk.out]
  rw [hgk.out] at hrow2 hgk2
  have HCK := Lib.hid hrow2
  have C1 := Lib.hid (CIL.out w2 (HL.out.below HB2.out))
  clear HB1 hbx hgl hckl hcks hone hold hbel2 b12 hrow2 CIL
  rw [hvl] at C1
  go_wp2_with fail
  refine C1.out.mono ?_
  rintro e w3 ⟨rfl, b3⟩
  have HB3 := Lib.hid (HB2.out.trans (b3.mono HB2.out.size))
  have HCK := Lib.hid ((b3.block gk hgk2).trans HCK.out)
  have hgk3 := Nat.lt_of_lt_of_le hgk2 b3.size
  have C2 := Lib.hid (CIM.out w3 (HM.out.below HB3.out))
  rw [hvm] at C2
  clear C1 b3 HB2 CIM hgk2
  go_wp2_with fail
  refine C2.out.mono ?_
  rintro e w4 ⟨rfl, b4⟩
  have HB4 := Lib.hid (HB3.out.trans (b4.mono HB3.out.size))
  have HCK := Lib.hid ((b4.block gk hgk3).trans HCK.out)
  have hgk4 := Nat.lt_of_lt_of_le hgk3 b4.size
  have C3 := Lib.hid (differ_any A B slow w4 hA hB)
  unfold DifR at C3
  obtain ⟨DL, hDL⟩ : ∃ DL, Hid (difL A B slow 288 = DL) := ⟨_, Lib.hid rfl⟩
  rw [hDL.out] at C3
  have hDn : DL.length ≤ 288 := by rw [← hDL.out]; exact difL_len A B slow 288
  clear C2 b4 HB3 hgk3
  go_wp2_with fail
  refine C3.out.mono ?_
  rintro e wq ⟨pd, cd, rfl, hod, b5⟩
  have HB5 := Lib.hid (HB4.out.trans (b5.mono HB4.out.size))
  have HCK := Lib.hid ((b5.block gk hgk4).trans HCK.out)
  have hgk5 := Nat.lt_of_lt_of_le hgk4 b5.size
  have HOD := Lib.hid hod
  obtain ⟨nd, hnd⟩ : ∃ nd, Hid (DL.length = nd) := ⟨_, Lib.hid rfl⟩
  rw [hnd.out] at hDn HOD
  rw [hnd.out]
  obtain ⟨i0, hi0, hz0, hz1, hz2⟩ := info_parts33 info_int33
  clear C3 b5 HB4 hgk4 hod HL HM
  go_wp2_with fail
  go_loopw [11, 12] (fun s11 s12 wi => ∃ (i : Nat) (Mm : List Int), s12 = .int .i64 (i : Int) ∧ i ≤ 288 ∧ (∃ a c, s11 = .slice a Mm.length c) ∧ Mm.length ≤ i ∧ Hid (difL A B slow i = Mm) ∧ Hid (OwnI wq.heap.size wi s11 Mm) ∧ Hid (Below wq.heap.size wq wi)) (fun _ s12 _ => 288 - (intOf s12).toNat)
  case atStart => exact ⟨0, [], rfl, by omega, ⟨_, _, rfl⟩, by simp, Lib.hid (by with_unfolding_all rfl), Lib.hid (OwnI.nil _ _), Lib.hid (Below.refl _ _)⟩
  case round =>
    obtain ⟨i, Mm, rfl, hi, ⟨a8, c8, rfl⟩, hMm, HMm, HO, HBr⟩ := hrel
    by_cases hlt : i < 288
    · as_aux_lemma =>
      have hli : (i : Int) < 288 := by omega
      have C1 := Lib.hid (rblock_any A i wr hA hlt)
      have C2 := Lib.hid (rblock_any B i wr hB hlt)
      have H1 := Lib.hid (difL_no A B slow i)
      have H2 := Lib.hid (difL_yes A B slow i)
      rw [HMm.out] at H1 H2
      unfold difP at H1 H2
      have hxs := blkP_size hA hlt
      have hys := blkP_size hB hlt
      have HP : Hid (∀ s, (slow = true ∧ i = 0 → partP s slow i = (blkP s i).extract 0 32) ∧ (¬ (slow = true ∧ i = 0) → partP s slow i = blkP s i)) := Lib.hid (fun s => ⟨fun h => if_pos h, fun h => if_neg h⟩)
      have HO3 : Hid (wr.ownsRow wq.heap.size 3 1 (.slice a8 Mm.length c8) Mm.length (Mm.map (Value.int .i64))) := Lib.hid HO.out
      have HB3 := HBr
      have hb3 := HB3.out.size
      clear HMm HO HBr
      go_wp2_with fail
      refine C1.out.mono ?_
      rintro e w' ⟨rfl, rfl⟩
      go_wp2_with fail
      refine C2.out.mono ?_
      rintro e w' ⟨rfl, rfl⟩
      clear C1 C2
      by_cases hc : slow = true ∧ i = 0
      · as_aux_lemma =>
        have e1 := (HP.out A).1 hc
        have e2 := (HP.out B).1 hc
        rw [e1, e2] at H1 H2
        obtain ⟨rfl, rfl⟩ := hc
        generalize blkP A 0 = xa at *
        generalize blkP B 0 = xb at *
        obtain ⟨X, hX⟩ : ∃ X, xa.extract 0 32 = X := ⟨_, rfl⟩
        obtain ⟨Y, hY⟩ : ∃ Y, xb.extract 0 32 = Y := ⟨_, rfl⟩
        rw [hX, hY] at H1 H2
        clear e1 e2 HP
        go_upto_region 12 with fail
        obtain ⟨bb, hbb⟩ : ∃ bb, (!(X.toList == Y.toList)) = bb := ⟨_, rfl⟩
        rw [hbb] at H1 H2
        cases bb
        · have H3 := Lib.hid (H1.out rfl)
          clear H1 H2
          have hq : (X.toList == Y.toList) = true := by simpa using hbb
          obtain rfl : X = Y := toList_eq33 hq
          clear hbb hq
          go_wp2_with fail
          go_roundw
          case rel => exact ⟨0 + 1, Mm, by first | rfl | go_num, by omega, ⟨_, _, rfl⟩, by omega, H3, HO3, HB3⟩
          case measure => (simp [intOf]; try omega)
        · have H3 := Lib.hid (H2.out rfl)
          clear H1 H2
          have hq : (X.toList == Y.toList) = false := by simpa using hbb
          have hXY : ¬ X = Y := fun e => by rw [e] at hq; simp at hq
          go_wp2_with (at_builtin; refine wpList_append_own _ rfl _ _ 39 rfl wq.heap.size 3 i0 (.int .i64 0) 1 8 Try.underlying39 hi0 hz0 hz1 hz2 rfl (by decide) _ Mm.length (Mm.map (Value.int .i64)) rfl (HO3.out.alloc _) ⟨wr.heap.size, 0, none⟩ 1 1 [.int .i64 0] rfl rfl (cell_one_new _ _ _) (fun u hu => by simp at hu; subst hu; rfl) (by unfold maxLen; omega) (by omega) (by simp; omega) ?_)
          intro v' w5 hown hg5 _
          have HB5 := Lib.hid ((HB3.out.alloc hb3 _).grown hg5 (by simp; omega) (fun j e => (HO3.out.lt j e).1))
          have HO5 : Hid (OwnI wq.heap.size w5 v' (Mm ++ [0])) := Lib.hid (by unfold OwnI; rw [List.length_append, List.map_append]; exact hown)
          obtain ⟨a', c', rfl⟩ := own_sl33 HO5.out
          clear hown hg5 HO3 HB3
          go_wp2_with fail
          go_roundw
          case rel => exact ⟨0 + 1, Mm ++ [0], by first | rfl | go_num, by omega, ⟨_, _, rfl⟩, by (rw [List.length_append]; show Mm.length + 1 ≤ _; omega), H3, HO5, HB5⟩
          case measure => (simp [intOf]; try omega)
      · as_aux_lemma =>
        have e1 := (HP.out A).2 hc
        have e2 := (HP.out B).2 hc
        rw [e1, e2] at H1 H2
        generalize blkP A i = X at *
        generalize blkP B i = Y at *
        have hcc : ((i : Int) == 0) = false ∨ (slow = false ∧ i = 0) := by
          by_cases h0 : i = 0
          · refine Or.inr ⟨?_, h0⟩
            cases slow
            · rfl
            · exact absurd ⟨rfl, h0⟩ hc
          · left; simp; omega
        clear e1 e2 HP
        rcases hcc with hi9 | ⟨rfl, rfl⟩
        · as_aux_lemma =>
          go_upto_region 12 with fail
          obtain ⟨bb, hbb⟩ : ∃ bb, (!(X.toList == Y.toList)) = bb := ⟨_, rfl⟩
          rw [hbb] at H1 H2
          cases bb
          · have H3 := Lib.hid (H1.out rfl)
            clear H1 H2
            have hq : (X.toList == Y.toList) = true := by simpa using hbb
            obtain rfl : X = Y := toList_eq33 hq
            clear hbb hq
            go_wp2_with fail
            go_roundw
            case rel => exact ⟨i + 1, Mm, by first | rfl | go_num, by omega, ⟨_, _, rfl⟩, by omega, H3, HO3, HB3⟩
            case measure => (simp [intOf]; try omega)
          · have H3 := Lib.hid (H2.out rfl)
            clear H1 H2
            have hq : (X.toList == Y.toList) = false := by simpa using hbb
            have hXY : ¬ X = Y := fun e => by rw [e] at hq; simp at hq
            go_wp2_with (at_builtin; refine wpList_append_own _ rfl _ _ 39 rfl wq.heap.size 3 i0 (.int .i64 0) 1 8 Try.underlying39 hi0 hz0 hz1 hz2 rfl (by decide) _ Mm.length (Mm.map (Value.int .i64)) rfl (HO3.out.alloc _) ⟨wr.heap.size, 0, none⟩ 1 1 [.int .i64 (i : Int)] rfl rfl (cell_one_new _ _ _) (fun u hu => by simp at hu; subst hu; rfl) (by unfold maxLen; omega) (by omega) (by simp; omega) ?_)
            intro v' w5 hown hg5 _
            have HB5 := Lib.hid ((HB3.out.alloc hb3 _).grown hg5 (by simp; omega) (fun j e => (HO3.out.lt j e).1))
            have HO5 : Hid (OwnI wq.heap.size w5 v' (Mm ++ [(i : Int)])) := Lib.hid (by unfold OwnI; rw [List.length_append, List.map_append]; exact hown)
            obtain ⟨a', c', rfl⟩ := own_sl33 HO5.out
            clear hown hg5 HO3 HB3
            go_wp2_with fail
            go_roundw
            case rel => exact ⟨i + 1, Mm ++ [(i : Int)], by first | rfl | go_num, by omega, ⟨_, _, rfl⟩, by (rw [List.length_append]; show Mm.length + 1 ≤ _; omega), H3, HO5, HB5⟩
            case measure => (simp [intOf]; try omega)
        · as_aux_lemma =>
          go_upto_region 12 with fail
          obtain ⟨bb, hbb⟩ : ∃ bb, (!(X.toList == Y.toList)) = bb := ⟨_, rfl⟩
          rw [hbb] at H1 H2
          cases bb
          · have H3 := Lib.hid (H1.out rfl)
            clear H1 H2
            have hq : (X.toList == Y.toList) = true := by simpa using hbb
            obtain rfl : X = Y := toList_eq33 hq
            clear hbb hq
            go_wp2_with fail
            go_roundw
            case rel => exact ⟨0 + 1, Mm, by first | rfl | go_num, by omega, ⟨_, _, rfl⟩, by omega, H3, HO3, HB3⟩
            case measure => (simp [intOf]; try omega)
          · have H3 := Lib.hid (H2.out rfl)
            clear H1 H2
            have hq : (X.toList == Y.toList) = false := by simpa using hbb
            have hXY : ¬ X = Y := fun e => by rw [e] at hq; simp at hq
            go_wp2_with (at_builtin; refine wpList_append_own _ rfl _ _ 39 rfl wq.heap.size 3 i0 (.int .i64 0) 1 8 Try.underlying39 hi0 hz0 hz1 hz2 rfl (by decide) _ Mm.length (Mm.map (Value.int .i64)) rfl (HO3.out.alloc _) ⟨wr.heap.size, 0, none⟩ 1 1 [.int .i64 0] rfl rfl (cell_one_new _ _ _) (fun u hu => by simp at hu; subst hu; rfl) (by unfold maxLen; omega) (by omega) (by simp; omega) ?_)
            intro v' w5 hown hg5 _
            have HB5 := Lib.hid ((HB3.out.alloc hb3 _).grown hg5 (by simp; omega) (fun j e => (HO3.out.lt j e).1))
            have HO5 : Hid (OwnI wq.heap.size w5 v' (Mm ++ [0])) := Lib.hid (by unfold OwnI; rw [List.length_append, List.map_append]; exact hown)
            obtain ⟨a', c', rfl⟩ := own_sl33 HO5.out
            clear hown hg5 HO3 HB3
            go_wp2_with fail
            go_roundw
            case rel => exact ⟨0 + 1, Mm ++ [0], by first | rfl | go_num, by omega, ⟨_, _, rfl⟩, by (rw [List.length_append]; show Mm.length + 1 ≤ _; omega), H3, HO5, HB5⟩
            case measure => (simp [intOf]; try omega)
    · as_aux_lemma =>
      have hli : ¬ (i : Int) < 288 := by omega
      obtain rfl : i = 288 := by omega
      have hML : DL = Mm := by rw [← hDL.out]; exact HMm.out
      subst hML
      have HB6 := Lib.hid (HB5.out.trans (HBr.out.mono HB5.out.size))
      have HCK := Lib.hid ((HBr.out.block gk hgk5).trans HCK.out)
      have HOD6 := Lib.hid (HOD.out.kept_below HBr.out)
      have hgk6 := Nat.lt_of_lt_of_le hgk5 HBr.out.size
      rw [hnd.out]
      clear HBr HB5 HOD hgk5 HMm hDL
      have HCV := Lib.hid (fun w' h => ck_conv f gk w' h)
      have hCs := ckB_size f
      have HDO := Lib.hid (difL_oth hA hCs)
      have hOs := othB_size hA hCs
      have hO : A.extract 0 32 ++ ckB f ++ A.extract 64 18432 = othB A (ckB f) := rfl
      obtain ⟨O, hOO⟩ : ∃ O, othB A (ckB f) = O := ⟨_, rfl⟩
      rw [hOO] at HDO hOs hO
      clear hOO
      generalize ckB f = C at *
      have hs1 : (A.extract 0 32).size = 32 := by rw [ByteArray.size_extract]; omega
      have hs3 : (A.extract 64 18432).size = 18368 := by rw [ByteArray.size_extract]; omega
      have hck := HCK.out
      clear HCK
      go_upto_region 14 with fail
      refine wp_region_lin (S := (fun w' => w'.heap[gk]? = some (.cells (ckC f).toArray 36 (0, 0)))) [(0, true), (1, true), (2, true), (3, true), (4, true), (5, true), (6, true), (7, true), (8, true)] (by kernel_rfl) (by kernel_rfl) rfl (by kernel_rfl) ?_ (fun hHeld => ?_)
      · (try dsimp only); exact hck
      (refine wpL_calm (o := { dst := some 67, op := Go.Op.move (Go.Operand.tmp 7), type := 9, pos := "law.go:91", after := #[], guard := none }) (v := ?_) rfl (Or.inl ⟨by rfl, ?_⟩) ?_; rotate_left; (focus (intro w hSw; (try dsimp only at hSw); go_simp; (try (with_reducible rfl)); done)); try simp only [Act.put, List.setIfInBounds_toArray, List.set_cons_zero, List.set_cons_succ])
      (refine wpL_calm (o := { dst := some 68, op := Go.Op.slice 9 (Go.Operand.tmp 67) none (some (Go.Operand.const (Go.Value.int Go.IntKind.i64 32))) none, type := 9, pos := "law.go:91", after := #[{ on := 0, ground := Go.Ground.data }], guard := none }) (v := ?_) rfl (Or.inl ⟨by rfl, ?_⟩) ?_; rotate_left; (focus (intro w hSw; (try dsimp only at hSw); go_simp; (try (with_reducible rfl)); done)); try simp only [Act.put, List.setIfInBounds_toArray, List.set_cons_zero, List.set_cons_succ])
      (refine wpL_calm (o := { dst := some 69, op := Go.Op.slice 36 (Go.Operand.tmp 6) none none none, type := 43, pos := "law.go:91", after := #[], guard := none }) (v := ?_) rfl (Or.inl ⟨by rfl, ?_⟩) ?_; rotate_left; (focus (intro w hSw; (try dsimp only at hSw); go_simp; (try (with_reducible rfl)); done)); try simp only [Act.put, List.setIfInBounds_toArray, List.set_cons_zero, List.set_cons_succ])
      refine wpL_calm (o := { dst := some 70, op := Go.Op.convert 43 9 (Go.Operand.tmp 69), type := 9, pos := "law.go:91", after := #[{ on := 2, ground := Go.Ground.data }], guard := none }) (v := .string C) rfl (Or.inl ⟨by rfl, ?_⟩) ?_; (focus (intro w hSw; have hl := HCV.out _ hSw; go_simp))
      try simp only [Act.put, List.setIfInBounds_toArray, List.set_cons_zero, List.set_cons_succ]
      (refine wpL_calm (o := { dst := some 71, op := Go.Op.binOp Go.BinOp.add 9 (Go.Operand.tmp 68) (Go.Operand.tmp 70) 9, type := 9, pos := "law.go:91", after := #[{ on := 1, ground := Go.Ground.data }, { on := 3, ground := Go.Ground.data }], guard := none }) (v := ?_) rfl (Or.inl ⟨by rfl, ?_⟩) ?_; rotate_left; (focus (intro w hSw; (try dsimp only at hSw); go_simp; (try (with_reducible rfl)); done)); try simp only [Act.put, List.setIfInBounds_toArray, List.set_cons_zero, List.set_cons_succ])
      (refine wpL_calm (o := { dst := some 72, op := Go.Op.move (Go.Operand.tmp 7), type := 9, pos := "law.go:91", after := #[], guard := none }) (v := ?_) rfl (Or.inl ⟨by rfl, ?_⟩) ?_; rotate_left; (focus (intro w hSw; (try dsimp only at hSw); go_simp; (try (with_reducible rfl)); done)); try simp only [Act.put, List.setIfInBounds_toArray, List.set_cons_zero, List.set_cons_succ])
      (refine wpL_calm (o := { dst := some 73, op := Go.Op.slice 9 (Go.Operand.tmp 72) (some (Go.Operand.const (Go.Value.int Go.IntKind.i64 64))) none none, type := 9, pos := "law.go:91", after := #[{ on := 5, ground := Go.Ground.data }], guard := none }) (v := ?_) rfl (Or.inl ⟨by rfl, ?_⟩) ?_; rotate_left; (focus (intro w hSw; (try dsimp only at hSw); go_simp; (try (with_reducible rfl)); done)); try simp only [Act.put, List.setIfInBounds_toArray, List.set_cons_zero, List.set_cons_succ])
      (refine wpL_calm (o := { dst := some 74, op := Go.Op.binOp Go.BinOp.add 9 (Go.Operand.tmp 71) (Go.Operand.tmp 73) 9, type := 9, pos := "law.go:91", after := #[{ on := 4, ground := Go.Ground.data }, { on := 6, ground := Go.Ground.data }], guard := none }) (v := ?_) rfl (Or.inl ⟨by rfl, ?_⟩) ?_; rotate_left; (focus (intro w hSw; (try dsimp only at hSw); go_simp; (try (with_reducible rfl)); done)); try simp only [Act.put, List.setIfInBounds_toArray, List.set_cons_zero, List.set_cons_succ])
      (refine wpL_calm (o := { dst := some 15, op := Go.Op.assign (Go.Operand.tmp 74), type := 9, pos := "law.go:91", after := #[{ on := 7, ground := Go.Ground.data }, { on := 0, ground := Go.Ground.phase }, { on := 1, ground := Go.Ground.phase }, { on := 2, ground := Go.Ground.phase }, { on := 3, ground := Go.Ground.phase }, { on := 4, ground := Go.Ground.phase }, { on := 5, ground := Go.Ground.phase }, { on := 6, ground := Go.Ground.phase }, { on := 7, ground := Go.Ground.phase }], guard := none }) (v := ?_) rfl (Or.inl ⟨by rfl, ?_⟩) ?_; rotate_left; (focus (intro w hSw; (try dsimp only at hSw); go_simp; (try (with_reducible rfl)); done)); try simp only [Act.put, List.setIfInBounds_toArray, List.set_cons_zero, List.set_cons_succ])
      refine wpL_nil ?_
      refine NoPanic.normal ?_
      have HO7 : Hid (wr.drew.ownsRow wq.heap.size 3 1 (.slice a8 DL.length c8) DL.length (DL.map (Value.int .i64))) := Lib.hid HO.out
      have HOD7 : Hid (wr.drew.ownsRow w4.heap.size 3 1 (.slice pd nd cd) DL.length (DL.map (Value.int .i64))) := Lib.hid HOD6.out
      have HB7 := Lib.hid HB6.out.drew
      clear HO HOD6 HB6 hHeld hck HCV hs1 hs3 hgk6 hCs
      try rw [hO]
      generalize wr.drew = w7 at *
      have C3 := Lib.hid (differ_any A O true w7 hA hOs)
      unfold DifR at C3
      rw [HDO.out] at C3
      rw [hnd.out] at HO7 HOD7
      go_wp2_with fail
      try rw [hO]
      refine C3.out.mono ?_
      rintro e w8 ⟨p8, c8', rfl, _, b8⟩
      have HB8 := Lib.hid (HB7.out.trans (b8.mono HB7.out.size))
      have HO8 := Lib.hid (HO7.out.kept_below b8)
      have HOD8 := Lib.hid (HOD7.out.kept_below b8)
      rw [show ([] : List Int).length = 0 from rfl]
      clear C3 b8 HB7 HO7 HOD7
      have C4 := Lib.hid (differ_any A A slow w8 hA hA)
      unfold DifR at C4
      rw [difL_self] at C4
      go_wp2_with fail
      refine C4.out.mono ?_
      rintro e w9 ⟨p9, c9', rfl, _, b9⟩
      have HB9 := Lib.hid (HB8.out.trans (b9.mono HB8.out.size))
      have HO9 := Lib.hid (HO8.out.kept_below b9)
      have HOD9 := Lib.hid (HOD8.out.kept_below b9)
      rw [show ([] : List Int).length = 0 from rfl]
      clear C4 b9 HB8 HO8 HOD8
      have C5 := Lib.hid (differ_no A (B.extract 1 18432) slow w9 (fun h => by have := h.2; rw [ByteArray.size_extract] at this; omega))
      go_wp2_with fail
      refine C5.out.mono ?_
      rintro e w' ⟨rfl, rfl⟩
      clear C5
      go_wp2_with fail
      refine (awake33 w9).mono ?_
      rintro e w10 ⟨rfl, b10⟩
      have HB10 := Lib.hid (HB9.out.trans (b10.mono HB9.out.size))
      have HO10 := HO9.out.kept_below b10
      have HOD10 := HOD9.out.kept_below b10
      have hi1 : IntsAt w10 pd nd DL := by
        rw [← hnd.out] at HOD10 ⊢
        exact (IntsAt.own HOD10).2
      have hi2 : IntsAt w10 a8 nd DL := by
        rw [← hnd.out] at HO10 ⊢
        exact (IntsAt.own HO10).2
      have C6 := Lib.hid (ints_raw pd a8 nd nd cd c8 DL DL w10 hnd.out hnd.out hi1 hi2 (by unfold maxLen; omega) true (Lib.hid (decide_eq_true rfl)))
      clear b10 HB9 HO9 HOD9 HO10 HOD10 hi1 hi2
      go_wp2_with fail
      refine C6.out.mono ?_
      rintro e w11 ⟨rfl, b11⟩
      have HB11 := Lib.hid (HB10.out.trans (b11.mono HB10.out.size))
      clear C6 b11 HB10
      go_wp2_with fail
      go_ret
      exact ⟨by first | rfl | simp, HB11.out⟩
theorem change_fields : ∃ f0 f1, Try.prog.underlying 51 = some (.struct #[f0, f1]) ∧ (f0.type = 3 ∧ f0.offset = 0) ∧ (f1.type = 9 ∧ f1.offset = 1) :=
  ⟨_, _, Try.underlying51, ⟨rfl, rfl⟩, ⟨rfl, rfl⟩⟩
theorem four_fields33 : ∃ f0 f1 f2 f3, Try.prog.underlying 38 = some (.struct #[f0, f1, f2, f3]) ∧ (f0.type = 22 ∧ f0.offset = 0) ∧ (f1.type = 22 ∧ f1.offset = 1) ∧ (f2.type = 4 ∧ f2.offset = 2) ∧ (f3.type = 36 ∧ f3.offset = 3) :=
  ⟨_, _, _, _, Try.underlying38, ⟨rfl, rfl⟩, ⟨rfl, rfl⟩, ⟨rfl, rfl⟩, ⟨rfl, rfl⟩⟩
end Go.Proofs.Ytapmnacggpcffaa
