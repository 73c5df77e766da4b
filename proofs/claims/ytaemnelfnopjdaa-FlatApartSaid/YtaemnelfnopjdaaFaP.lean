/- Package flat: a store into the midst of an own row; Safe. -/
import Derived.Test.YtaemnelfnopjdaaFaO
import Derived.Laws.CopyRow
namespace Go.Proofs.Ytaemnelfnopjdaa
open Go.RowKit Go.Deep Go.Maps
set_option linter.unusedVariables false
set_option linter.unusedSimpArgs false
theorem run_storeVar_midF {P : Program} (w : World) (g o : Nat) (ty t : TypeId) (cur cells : Array Value) (hg : w.heap[g]? = some (.cells cur t (0, 0))) (hfit : o + cells.size ≤ cur.size) (hi : (P.info? ty).map (·.size) = some cells.size) (h1 : cells.all (·.oneCell') = true) :
    (storeVar ty ⟨g, o, none⟩ (.agg cells)).run P w = .ok () (w.setRow g (splice cur.toList o cells.toList).toArray) := by
  have := run_storeCells_at (P := P) g o t cells.toList 0 cur w hg (by simpa using hfit) (fun v hv => (Array.all_eq_true_iff_forall_mem.1 h1) v (by simpa using hv))
  cases hq : P.info? ty with
  | none => simp [hq] at hi
  | some i =>
    have hs : cells.size = i.size := by simp [hq] at hi; omega
    simp only [Nat.add_zero, List.append_assoc] at this
    unfold splice
    simp [storeVar, sizeOf, typeInfo, hq, Value.cells, hs, this]
theorem wp_store_midF {P : Program} {op : Oper} {a : Act} {w : World} {K : Act → World → Prop} {Q : Exit → Act → World → Prop} (ty : TypeId) (x y : Operand) (ho : op.op = .store ty x y)
    (g o : Nat) (cells : Array Value) (hx : a.eval x = .pointer (some ⟨g, o, none⟩)) (hy : a.eval y = .agg cells) (t : TypeId) (cur : Array Value)
    (hg : w.heap[g]? = some (.cells cur t (0, 0))) (hfit : o + cells.size ≤ cur.size) (hi : (P.info? ty).map (·.size) = some cells.size) (h1 : cells.all (·.oneCell') = true)
    (h : ∀ w2, Hid (w2 = w.setRow g (splice cur.toList o cells.toList).toArray) → K (a.put op.dst undef) w2) : op.wp P a w K Q := by
  have hh := h _ (Lib.hid rfl)
  unfold Oper.wp execOp
  simp only [ho, hx, hy, Instr.storeAt, Instr.sureAddr, Sem.run_bind, Sem.run_pure, Result.andThen_ok, run_storeVar_midF w g o ty t cur cells hg hfit hi h1]
  exact hh
theorem take_splice {α : Type} (L cs : List α) (o n : Nat) (h : o + cs.length ≤ n) (hn : n ≤ L.length) : (splice L o cs).take n = splice (L.take n) o cs := by
  unfold splice
  apply List.ext_getElem?
  intro j
  rw [List.getElem?_take]
  by_cases hj : j < n
  · rw [if_pos hj]
    by_cases h1 : j < o
    · rw [List.getElem?_append_left (by rw [List.length_take]; omega), List.getElem?_append_left (by rw [List.length_take, List.length_take]; omega), List.take_take, Nat.min_eq_left (by omega)]
    · have e1 : (L.take o).length = o := by rw [List.length_take]; omega
      have e2 : ((L.take n).take o).length = o := by rw [List.length_take, List.length_take]; omega
      rw [List.getElem?_append_right (l₁ := L.take o) (by rw [e1]; omega), List.getElem?_append_right (l₁ := (L.take n).take o) (by rw [e2]; omega), e1, e2]
      by_cases h2 : j - o < cs.length
      · rw [List.getElem?_append_left h2, List.getElem?_append_left h2]
      · rw [List.getElem?_append_right (l₁ := cs) (l₂ := L.drop (o + cs.length)) (by omega), List.getElem?_append_right (l₁ := cs) (l₂ := (L.take n).drop (o + cs.length)) (by omega), List.getElem?_drop, List.getElem?_drop, List.getElem?_take, if_pos (by omega)]
  · rw [if_neg hj, List.getElem?_eq_none]
    rw [List.length_append, List.length_append, List.length_take, List.length_drop, List.length_take]
    omega
theorem own_splice {w : World} {B g n cap size o : Nat} {e : TypeId} {xs vs : List Value} (h : w.ownsRow B e size (.slice (some ⟨g, 0, none⟩) n cap) n xs) (ho : o + vs.length ≤ n * size) : ∃ cur, w.heap[g]? = some (.cells cur e (0, 0)) ∧ n * size ≤ cur.size ∧ (w.setRow g (splice cur.toList o vs).toArray).ownsRow B e size (.slice (some ⟨g, 0, none⟩) n cap) n (splice xs o vs) := by
  have hlen := h.1
  rcases h.2 with ⟨e9, h0⟩ | ⟨g2, cap2, cur, e9, q1, q2, q3, q4, q5, q6⟩
  · injection e9 with e9; cases e9
  · injection e9 with e1 _ e3
    injection e1 with e1
    injection e1 with e1
    subst e1 e3
    have hns : n * size ≤ cur.size := by rw [q5]; exact Nat.mul_le_mul_right _ q3
    refine ⟨cur, q2, hns, ?_, Or.inr ⟨g, cap, (splice cur.toList o vs).toArray, rfl, q1, setRow_heap w g cur _ e (0, 0) q2, q3, q4, ?_, ?_⟩⟩
    · rw [length_splice _ _ _ (by rw [hlen]; exact ho)]; exact hlen
    · rw [List.size_toArray, length_splice _ _ _ (by rw [Array.length_toList]; exact Nat.le_trans ho hns), Array.length_toList]; exact q5
    · rw [← q6, ← take_splice _ _ _ _ ho (by rw [Array.length_toList]; exact hns)]
theorem flat_set {α β : Type} (f : α → List β) (m : Nat) (y : α) (hy : (f y).length = m) : ∀ (L : List α) (i : Nat), i < L.length → (∀ s ∈ L, (f s).length = m) → splice (L.flatMap f) (i * m) (f y) = (L.set i y).flatMap f
  | x :: L, 0, _, hf => by
    have hx := hf x (by simp)
    unfold splice
    rw [Nat.zero_mul, List.take_zero, List.nil_append, Nat.zero_add, hy, List.flatMap_cons, List.drop_append, hx, Nat.sub_self, List.drop_zero, List.drop_eq_nil_of_le (by omega), List.nil_append]
    rfl
  | x :: L, i + 1, h, hf => by
    have hx := hf x (by simp)
    have ih := flat_set f m y hy L i (by simpa using h) (fun s hs => hf s (by simp [hs]))
    unfold splice at ih ⊢
    have e : (i + 1) * m = m + i * m := by rw [Nat.succ_mul, Nat.add_comm]
    rw [e, List.flatMap_cons, List.take_append, hx, List.take_of_length_le (by omega), show m + i * m - m = i * m by omega, List.append_assoc, List.drop_append, hx, List.drop_eq_nil_of_le (by omega), List.nil_append, show m + i * m + (f y).length - m = i * m + (f y).length by omega, ih]
    rfl
/-- The first states behind i turns of Safe. -/
def safeN (M : Fl) (i : Nat) : List (List Nat) := (M.F.take i).map (foldC M.C) ++ M.F.drop i
theorem safeN_len (M : Fl) {i : Nat} (h : i ≤ M.F.length) : (safeN M i).length = M.F.length := by
  unfold safeN
  rw [List.length_append, List.length_map, List.length_take, List.length_drop]
  omega
theorem safeN_get (M : Fl) {i : Nat} (h : i < M.F.length) : (safeN M i)[i]? = some M.F[i] := by
  unfold safeN
  rw [List.getElem?_append_right (by rw [List.length_map, List.length_take]; omega), List.length_map, List.length_take, Nat.min_eq_left (by omega), Nat.sub_self, List.getElem?_drop, Nat.add_zero, List.getElem?_eq_getElem h]
theorem safeN_set (M : Fl) {i : Nat} (h : i < M.F.length) : (safeN M i).set i (foldC M.C M.F[i]) = safeN M (i + 1) := by
  unfold safeN
  rw [List.set_append_right _ _ (by rw [List.length_map, List.length_take]; omega), List.length_map, List.length_take, Nat.min_eq_left (by omega), Nat.sub_self, List.drop_eq_getElem_cons h, List.set_cons_zero, ← List.take_append_getElem h, List.map_append, List.append_assoc]
  rfl
section
variable {w : World} {B g bm : Nat} {M : Fl} {vt vf vc : Value} {cm : List Ch} {D : DataW Unit} {OL CL : List Nat}
attribute [local irreducible] stA
/-- A first state is set. -/
theorem FlAt.set_first {L : List (List Nat)} {gf cap i : Nat} {y : List Nat} (h : FlAt w B g { M with F := L } vt (.slice (some ⟨gf, 0, none⟩) L.length cap) vc cm bm D) (hL : ∀ f ∈ L, f.length = 64) (hi : i < L.length) (hy : y.length = 64) :
    ∃ cur, w.heap[gf]? = some (.cells cur 56 (0, 0)) ∧ i * 64 + (stA y).size ≤ cur.size ∧ FlAt (w.setRow gf (splice cur.toList (i * 64) (stA y).toList).toArray) B g { M with F := L.set i y } vt (.slice (some ⟨gf, 0, none⟩) L.length cap) vc cm bm D ∧ B ≤ gf ∧ gf ∈ OwnL g vt (.slice (some ⟨gf, 0, none⟩) L.length cap) vc bm := by
  have e0 : (stA y).toList = nC y := by with_unfolding_all rfl
  have hb : i * 64 + (nC y).length ≤ L.length * 64 := by
    rw [nC_len, hy]
    have : (i + 1) * 64 ≤ L.length * 64 := Nat.mul_le_mul_right _ hi
    omega
  obtain ⟨cur, hc, hs, hrow⟩ := own_splice (o := i * 64) (vs := nC y) h.hf hb
  rw [flat_set nC 64 y (by rw [nC_len, hy]) L i hi (fun f hf => by rw [nC_len]; exact hL f hf)] at hrow
  have ho : ∀ k, k ≠ gf → (w.setRow gf (splice cur.toList (i * 64) (nC y)).toArray).heap[k]? = w.heap[k]? := fun k hk => setRow_other w gf k _ hk
  have hbg : B ≤ gf := (h.hf.lt gf rfl).1
  refine ⟨cur, hc, by rw [stA_size hy]; have := hb; rw [nC_len, hy] at this; exact Nat.le_trans this hs, ?_, hbg, mem_own.2 (Or.inr (Or.inr (Or.inr (Or.inl rfl))))⟩
  rw [e0]
  exact
    { hg := (ho g (fun e => (h.ff (k := gf) rfl).2.2.1 e.symm)).trans h.hg
      bg := h.bg
      ht := own_at_block h.ht (fun k e => ho k (fun e1 => (h.ff (k := gf) rfl).1 (by rw [e, e1])))
      hm := map_at_block h.hm (ho bm (fun e => (h.ff (k := gf) rfl).2.2.2 e.symm))
      bb := h.bb
      ix := h.ix
      hf := by
        show (w.setRow gf _).ownsRow B 56 64 _ (L.set i y).length _
        rw [List.length_set]
        exact hrow
      hc := own_at_block h.hc (fun k e => ho k (fun e1 => (h.ff (k := gf) rfl).2.1 (by rw [e, e1])))
      ch := fun c hcc => (h.ch c hcc).same (by rw [size_setRow]; exact Nat.le_refl _) (fun a ea => ho a.block (fun e1 => by have := ((h.ch c hcc).2 a ea).2; rw [e1, tyAt_cells hc] at this; revert this; decide))
      ce := h.ce }
/-- No changes. -/
theorem FlAt.no_c (h : FlAt w B g M vt vf vc cm bm D) : FlAt (w.setCell ⟨g, 4, none⟩ (.slice none 0 0)) B g { M with C := [] } vt vf (.slice none 0 0) [] bm D :=
  have ho : ∀ k, k ≠ g → (w.setCell ⟨g, 4, none⟩ (.slice none 0 0)).heap[k]? = w.heap[k]? := fun k hk => Below.heap_setCell w ⟨g, 4, none⟩ _ k hk
  { hg := fl_set4 h.hg
    bg := h.bg
    ht := own_at_block h.ht (fun k e => ho k (h.tf e).2.2.1)
    hm := map_at_block h.hm (ho bm (fun e => h.gbm e.symm))
    bb := h.bb
    ix := h.ix
    hf := own_at_block h.hf (fun k e => ho k (h.ff e).2.2.1)
    hc := World.ownsRow_nil _ _ _ _
    ch := fun c hc => by cases hc
    ce := rfl }
set_option maxRecDepth 100000 in
set_option maxHeartbeats 8000000 in
theorem safe_any (h : FlW w B g OL CL M) (hn : M.n ≤ 64) (hC : ChOk M.n M.C) (hF : ∀ f ∈ M.F, f.length = 64) (hCn : M.C.length ≤ 1000000) (hFn : M.F.length ≤ 2000000000) : Calls Try.prog 19 #[.pointer (some ⟨g, 0, none⟩)] w fun e w' => e = .returned (.tuple #[]) ∧ FlS w w' B g OL CL { M with F := M.F.map (foldC M.C), C := [] } := by
  obtain ⟨vt, vf, vc, cm, bm, D, hfl, rfl, rfl⟩ := h
  have H := Lib.hid hfl
  have HC := Lib.hid hC
  have HF := Lib.hid hF
  have HL := Lib.hid (fun i (hi : i ≤ M.F.length) => safeN_len M hi)
  have HG := Lib.hid (fun i (hi : i < M.F.length) => safeN_get M hi)
  have HS := Lib.hid (fun i (hi : i < M.F.length) => safeN_set M hi)
  have H64 : Hid (∀ i, ∀ f ∈ safeN M i, f.length = 64) := Lib.hid (fun i f hf => by
    unfold safeN at hf
    rcases List.mem_append.1 hf with h | h
    · obtain ⟨x, hx, rfl⟩ := List.mem_map.1 h
      exact foldC_len hn hC (hF x (List.mem_of_mem_take hx))
    · exact hF f (List.mem_of_mem_drop h))
  have H0 : Hid (safeN M 0 = M.F) := Lib.hid rfl
  have HE : Hid (safeN M M.F.length = M.F.map (foldC M.C)) := Lib.hid (by unfold safeN; rw [List.take_length, List.drop_length, List.append_nil])
  have c3 := cell_of_row w g 3 _ _ _ hfl.hg
  obtain ⟨fa, fc, evf⟩ := own_slF hfl.hf
  obtain ⟨n, hnn⟩ : ∃ n, Hid (M.F.length = n) := ⟨_, Lib.hid rfl⟩
  rw [hnn.out] at evf hFn HE
  subst evf
  generalize safeN M = SN at *
  have HI0 : Hid (FlAt w B g { M with F := SN 0 } vt (.slice fa n fc) vc cm bm D) := Lib.hid (by rw [H0.out]; exact hfl)
  clear hfl hC hF
  go_enter Try.func19, Try.ntmps19
  go_wp2_with fail
  go_loopw [11] (fun s11 wi => ∃ i : Nat, s11 = .int .i64 (i : Int) ∧ i ≤ n ∧ Hid (FlAt wi B g { M with F := SN i } vt (.slice fa n fc) vc cm bm D) ∧ Hid (Kq B (OwnL g vt (.slice fa n fc) vc bm) w wi)) (fun s11 _ => n - (intOf s11).toNat)
  case atStart => exact ⟨0, rfl, by omega, HI0, Lib.hid (Kq.refl _ _ _)⟩
  case round =>
    obtain ⟨i, rfl, hi, Hi, HK⟩ := hrel
    clear c3 HI0
    by_cases hlt : i < n
    · as_aux_lemma =>
      have hli : (i : Int) < (n : Int) := by omega
      have h0i : (0 : Int) ≤ (i : Int) := by omega
      have hiF : i < M.F.length := by rw [hnn.out]; exact hlt
      have hiL : i < (SN i).length := by rw [HL.out i (by omega)]; exact hiF
      obtain ⟨gf, cf, e9, hgf, hrg⟩ := Hi.out.first (M := { M with F := SN i }) hiL (H64.out i)
      have hLn : (SN i).length = n := by rw [HL.out i (by omega)]; exact hnn.out
      have e9' : Value.slice fa n fc = .slice (some ⟨gf, 0, none⟩) n cf := by rw [e9]; congr 1
      clear e9
      injection e9' with e1 _ e3
      subst e1 e3
      have hgt : (SN i)[i] = M.F[i] := by
        have := HG.out i hiF
        rw [List.getElem?_eq_getElem hiL] at this
        exact Option.some.inj this
      have hrg : wr.rangeAt gf (i * 64) (nC M.F[i]) := by rw [← hgt]; exact hrg
      have hfl := HF.out _ (List.getElem_mem hiF)
      have hss := HS.out i hiF
      obtain ⟨f, hf⟩ : ∃ f, Hid (M.F[i] = f) := ⟨_, Lib.hid rfl⟩
      rw [hf.out] at hfl hss hrg
      obtain ⟨w3, HW3, r3, b3, s3⟩ := st_stored wr f
      have HKB : Hid (Kq B (OwnL g vt (.slice (some ⟨gf, 0, none⟩) n fc) vc bm) w w3) := Lib.hid (HK.out.trans (Kq.of_below b3 Hi.out.bw))
      have H3 := Lib.hid (Hi.out.below b3)
      have H3d := Lib.hid (H3.out.below (Below.refl w3.heap.size w3).drew)
      have CN := Lib.hid (now_any f H3d.out hfl hn HC.out hCn)
      have hnl := foldC_len hn HC.out hfl
      have hinf := stA_info hfl
      have hone := stA_one f
      have hlsz := lit_size hfl
      have hnca := stA_eq f
      have hncl : (Try.prog.info? 56).map (·.size) = some (nC f).length := by rw [nC_len, hfl]; exact info_st
      obtain ⟨gx, hgx⟩ : ∃ gx, Hid (wr.heap.size = gx) := ⟨_, Lib.hid rfl⟩
      have r3' : w3.heap[gx]? = some (.cells (stA f) 56 (0, 0)) := by rw [← hgx.out]; exact r3
      have c3i := cell_of_row wr g 3 _ _ _ Hi.out.hg
      have c33 := cell_of_row w3 g 3 _ _ _ H3.out.hg
      have hgl3 : g < w3.drew.heap.size := H3.out.lt
      have hgxl : gx < w3.drew.heap.size := (Array.getElem?_eq_some_iff.1 r3').1
      have HKD : Hid (Kq B (OwnL g vt (.slice (some ⟨gf, 0, none⟩) n fc) vc bm) w w3.drew) := Lib.hid (HKB.out.drew)
      have hinf2 := stA_info hnl
      have hone2 := stA_one (foldC M.C f)
      clear r3 s3
      go_upto_region 4 with (first | (refine wpList_load_mid rfl 56 _ rfl gf (i * 64) rfl (nC f) _ hrg Try.underlying56 rfl hncl ?_; rw [hnca]) | (refine wpList_store_row rfl _ _ _ rfl wr.heap.size (stA f) rfl rfl 56 _ (heap_alloc_new _ _) hinf hlsz hone ?_))
      rw [HW3.out, hgx.out]
      clear HW3 b3 hrg hlsz c3i Hi HK
      have c33' : w3.drew.cell? ⟨g, 3, none⟩ = some (.slice (some ⟨gf, 0, none⟩) n fc) := c33
      have r33' : w3.drew.heap[gx]? = some (.cells (stA f) 56 (0, 0)) := r3'
      refine wp_region_lin (S := (fun w' => w'.cell? ⟨g, 3, none⟩ = some (.slice (some ⟨gf, 0, none⟩) n fc) ∧ w'.heap[gx]? = some (.cells (stA f) 56 (0, 0)))) [(0, true), (1, true), (2, true), (3, true), (4, true), (5, true), (6, true), (7, false), (8, true), (9, false)] (by kernel_rfl) (by kernel_rfl) rfl (by kernel_rfl) ?_ (fun hHeld => ?_)
      · (try dsimp only); exact ⟨c33, r3'⟩
      generalize World.drew w3 = w4 at *
      (refine wpL_calm (o := { dst := some 16, op := Go.Op.move (Go.Operand.tmp 0), type := 23, pos := "flat.go:196", after := #[], guard := none }) (v := ?_) rfl (Or.inl ⟨by rfl, ?_⟩) ?_; rotate_left; (focus (intro w hSw; (try dsimp only at hSw); go_simp; (try (with_reducible rfl)); done)); try simp only [Act.put, List.setIfInBounds_toArray, List.set_cons_zero, List.set_cons_succ])
      (refine wpL_calm (o := { dst := some 17, op := Go.Op.nilCheck (Go.Operand.tmp 16), type := 0, pos := "flat.go:196", after := #[{ on := 0, ground := Go.Ground.data }], guard := none }) (v := ?_) rfl (Or.inl ⟨by rfl, ?_⟩) ?_; rotate_left; (focus (intro w hSw; (try dsimp only at hSw); go_simp; (try (with_reducible rfl)); done)); try simp only [Act.put, List.setIfInBounds_toArray, List.set_cons_zero, List.set_cons_succ])
      (refine wpL_calm (o := { dst := some 18, op := Go.Op.fieldAddr 60 (Go.Operand.tmp 17) 3, type := 0, pos := "flat.go:196", after := #[{ on := 1, ground := Go.Ground.data }], guard := none }) (v := ?_) rfl (Or.inl ⟨by rfl, ?_⟩) ?_; rotate_left; (focus (intro w hSw; (try dsimp only at hSw); go_simp; (try (with_reducible rfl)); done)); try simp only [Act.put, List.setIfInBounds_toArray, List.set_cons_zero, List.set_cons_succ])
      (refine wpL_calm (o := { dst := some 19, op := Go.Op.load 57 (Go.Operand.tmp 18), type := 57, pos := "flat.go:196", after := #[{ on := 2, ground := Go.Ground.data }], guard := none }) (v := ?_) rfl (Or.inl ⟨by rfl, ?_⟩) ?_; rotate_left; (focus (intro w hSw; (try dsimp only at hSw); go_simp; (try (with_reducible rfl)); done)); try simp only [Act.put, List.setIfInBounds_toArray, List.set_cons_zero, List.set_cons_succ])
      (refine wpL_calm (o := { dst := some 20, op := Go.Op.move (Go.Operand.tmp 2), type := 3, pos := "flat.go:196", after := #[], guard := none }) (v := ?_) rfl (Or.inl ⟨by rfl, ?_⟩) ?_; rotate_left; (focus (intro w hSw; (try dsimp only at hSw); go_simp; (try (with_reducible rfl)); done)); try simp only [Act.put, List.setIfInBounds_toArray, List.set_cons_zero, List.set_cons_succ])
      (refine wpL_calm (o := { dst := some 21, op := Go.Op.move (Go.Operand.tmp 0), type := 23, pos := "flat.go:196", after := #[], guard := none }) (v := ?_) rfl (Or.inl ⟨by rfl, ?_⟩) ?_; rotate_left; (focus (intro w hSw; (try dsimp only at hSw); go_simp; (try (with_reducible rfl)); done)); try simp only [Act.put, List.setIfInBounds_toArray, List.set_cons_zero, List.set_cons_succ])
      refine wpL_calm (o := { dst := some 22, op := Go.Op.load 56 (Go.Operand.tmp 3), type := 56, pos := "flat.go:196", after := #[], guard := none }) rfl (yieldsIf_load_mid (by rfl) _ _ rfl gx 0 rfl (nC f) _ (fun _ h => st_range h.2) Try.underlying56 rfl hncl) ?_; rw [hnca]
      try simp only [Act.put, List.setIfInBounds_toArray, List.set_cons_zero, List.set_cons_succ]
      refine wpL_loud1 (o := { dst := some 23, op := Go.Op.call { callee := Go.Callee.value (Go.Operand.func 39), args := #[Go.Operand.tmp 21, Go.Operand.tmp 22], argTypes := #[23, 56] }, type := 56, pos := "flat.go:196", after := #[{ on := 5, ground := Go.Ground.data }, { on := 6, ground := Go.Ground.data }], guard := none }) rfl (fun K hK => ?_)
      (go_simp; go_at_call 39; refine CN.out.mono ?_; rintro e w5 ⟨rfl, b5⟩)
      try go_wp2_with fail
      refine hK.out _ _ ?_ (fun hHeld => ?_)
      · (try dsimp only); exact ⟨(b5.cell (p := ⟨g, 3, none⟩) hgl3).trans c33', (b5.block gx hgxl).trans r33'⟩
      clear hK K
      try simp only [Act.put, List.setIfInBounds_toArray, List.set_cons_zero, List.set_cons_succ]
      have F5 : FlAt w5 B g { M with F := SN i } vt (.slice (some ⟨gf, 0, none⟩) (SN i).length fc) vc cm bm D := by rw [hLn]; exact H3d.out.below b5
      obtain ⟨cur, hcur, hfit, FN, hbgf, hgfo⟩ := F5.set_first (H64.out i) hiL hnl
      rw [hss, hLn] at FN
      (refine wpL_calm (o := { dst := some 24, op := Go.Op.indexAddr 57 (Go.Operand.tmp 19) (Go.Operand.tmp 20), type := 0, pos := "flat.go:196", after := #[{ on := 3, ground := Go.Ground.data }, { on := 4, ground := Go.Ground.data }, { on := 0, ground := Go.Ground.phase }, { on := 1, ground := Go.Ground.phase }, { on := 2, ground := Go.Ground.phase }, { on := 3, ground := Go.Ground.phase }, { on := 4, ground := Go.Ground.phase }, { on := 5, ground := Go.Ground.phase }, { on := 6, ground := Go.Ground.phase }, { on := 7, ground := Go.Ground.phase }], guard := none }) (v := ?_) rfl (Or.inl ⟨by rfl, ?_⟩) ?_; rotate_left; (focus (intro w hSw; (try dsimp only at hSw); go_simp; (try (with_reducible rfl)); done)); try simp only [Act.put, List.setIfInBounds_toArray, List.set_cons_zero, List.set_cons_succ])
      refine wpL_loud0 (o := { dst := none, op := Go.Op.store 56 (Go.Operand.tmp 24) (Go.Operand.tmp 23), type := 0, pos := "flat.go:196", after := #[{ on := 8, ground := Go.Ground.data }, { on := 7, ground := Go.Ground.data }, { on := 7, ground := Go.Ground.chain }, { on := 0, ground := Go.Ground.phase }, { on := 1, ground := Go.Ground.phase }, { on := 2, ground := Go.Ground.phase }, { on := 3, ground := Go.Ground.phase }, { on := 4, ground := Go.Ground.phase }, { on := 5, ground := Go.Ground.phase }, { on := 6, ground := Go.Ground.phase }, { on := 7, ground := Go.Ground.phase }], guard := none }) rfl (by kernel_rfl) (fun K hK => ?_)
      (rw [if_pos (by rfl)]; refine wp_store_midF _ _ _ rfl gf (i * 64) (stA (foldC M.C f)) rfl rfl 56 cur hcur hfit hinf2 hone2 ?_; intro w6 HW6)
      refine hK.out _ _ ?_
      clear hK K
      try simp only [Act.put, List.setIfInBounds_toArray, List.set_cons_zero, List.set_cons_succ]
      refine wpL_nil ?_
      refine NoPanic.normal ?_
      rw [hLn] at hgfo
      have HKN : Hid (Kq B (OwnL g vt (.slice (some ⟨gf, 0, none⟩) n fc) vc bm) w w6) := Lib.hid (by
        have k5 := HKD.out.trans (Kq.of_below (L := OwnL g vt (.slice (some ⟨gf, 0, none⟩) n fc) vc bm) b5 H3d.out.bw)
        rw [HW6.out]
        exact ⟨below_setRow k5.below hbgf _, fun k hk hn => (setRow_other w5 gf k _ (fun e => hn (by rw [e]; exact hgfo))).trans (k5.other k hk hn)⟩)
      have HFN : Hid (FlAt w6 B g { M with F := SN (i + 1) } vt (.slice (some ⟨gf, 0, none⟩) n fc) vc cm bm D) := Lib.hid (by rw [HW6.out]; exact FN)
      clear FN HW6 hcur hfit b5 c33 c33' r3' r33' F5 CN HKD HKB H3 H3d hHeld
      go_wp2_with fail
      go_roundw
      case rel => exact ⟨i + 1, by go_num, by omega, HFN, HKN⟩
      case measure => simp [intOf]; omega
    · as_aux_lemma =>
      have hli : ¬ (i : Int) < (n : Int) := by omega
      obtain rfl : i = n := by omega
      have hg := Hi.out.hg
      have c4 := cell_of_row wr g 4 _ _ _ hg
      have f4 := frozen_of_row wr g 4 _ _ hg
      have HEND : Hid (FlS w (wr.setCell ⟨g, 4, none⟩ (.slice none 0 0)) B g (OwnL g vt (.slice fa i fc) vc bm) (chL cm) { M with F := M.F.map (foldC M.C), C := [] }) := Lib.hid (by
        have hz := Hi.out.no_c
        rw [HE.out] at hz
        refine ⟨_, _, ⟨vt, _, _, [], bm, D, hz, rfl, rfl⟩, HK.out.setCell 4 _ Hi.out.bg (mem_own.2 (Or.inl rfl)), fun j hj => ?_, fun j hj => by cases hj⟩
        rcases mem_own.1 hj with h1 | h1 | h1 | h1 | h1
        · exact Or.inl (mem_own.2 (Or.inl h1))
        · exact Or.inl (mem_own.2 (Or.inr (Or.inl h1)))
        · exact Or.inl (mem_own.2 (Or.inr (Or.inr (Or.inl h1))))
        · exact Or.inl (mem_own.2 (Or.inr (Or.inr (Or.inr (Or.inl h1)))))
        · cases h1)
      clear hg
      go_wp2_with fail
      go_end0
      exact ⟨rfl, HEND.out⟩
end
end Go.Proofs.Ytaemnelfnopjdaa
