/- Package flat: a model whose blocks are told; keep; Write. -/
import Derived.Test.YtaemnelfnopjdaaFaG
namespace Go.Proofs.Ytaemnelfnopjdaa
open Go.RowKit Go.Deep Go.Maps
set_option linter.unusedVariables false
set_option linter.unusedSimpArgs false
def FlW (w : World) (B g : Nat) (OL CL : List Nat) (M : Fl) : Prop := ∃ vt vf vc cm bm D, FlAt w B g M vt vf vc cm bm D ∧ OL = OwnL g vt vf vc bm ∧ CL = chL cm
/-- A model behind a call: only its own blocks changed. -/
def FlS (w w' : World) (B g : Nat) (OL CL : List Nat) (M : Fl) : Prop := ∃ OL' CL', FlW w' B g OL' CL' M ∧ Kq B OL w w' ∧ (∀ k ∈ OL', k ∈ OL ∨ w.heap.size ≤ k) ∧ (∀ k ∈ CL', k ∈ CL ∨ w.heap.size ≤ k)
section
variable {w w' w2 : World} {B g : Nat} {OL CL : List Nat} {M M2 : Fl}
theorem FlW.lt (h : FlW w B g OL CL M) : g < w.heap.size := by
  obtain ⟨vt, vf, vc, cm, bm, D, h, _⟩ := h; exact h.lt
theorem FlW.bw (h : FlW w B g OL CL M) : B ≤ w.heap.size := by
  obtain ⟨vt, vf, vc, cm, bm, D, h, _⟩ := h; exact h.bw
theorem FlW.own_lt (h : FlW w B g OL CL M) {k : Nat} (hk : k ∈ OL) : k < w.heap.size ∧ B ≤ k := by
  obtain ⟨vt, vf, vc, cm, bm, D, h, rfl, _⟩ := h; exact h.own_lt hk
theorem FlW.noint (h : FlW w B g OL CL M) {k : Nat} (hk : tyAt w k = some 3) : k ∉ OL := by
  obtain ⟨vt, vf, vc, cm, bm, D, h, rfl, _⟩ := h; exact h.noint hk
theorem FlW.ch_ty (h : FlW w B g OL CL M) {k : Nat} (hk : k ∈ CL) : k < w.heap.size ∧ tyAt w k = some 3 := by
  obtain ⟨vt, vf, vc, cm, bm, D, h, _, rfl⟩ := h; exact h.ch_ty hk
theorem FlW.below (h : FlW w B g OL CL M) (k : Below w.heap.size w w') : FlW w' B g OL CL M := by
  obtain ⟨vt, vf, vc, cm, bm, D, h, e⟩ := h; exact ⟨vt, vf, vc, cm, bm, D, h.below k, e⟩
theorem FlW.kq {A : Nat} {N : List Nat} (h : FlW w B g OL CL M) (k : Kq A N w w') (h1 : ∀ j ∈ OL, j ∉ N) (h2 : ∀ j ∈ CL, j ∉ N) : FlW w' B g OL CL M := by
  obtain ⟨vt, vf, vc, cm, bm, D, h, rfl, rfl⟩ := h; exact ⟨vt, vf, vc, cm, bm, D, h.kq k h1 h2, rfl, rfl⟩
theorem FlS.refl (h : FlW w B g OL CL M) : FlS w w B g OL CL M := ⟨OL, CL, h, Kq.refl _ _ _, fun k hk => Or.inl hk, fun k hk => Or.inl hk⟩
theorem FlS.of_below (h : FlW w B g OL CL M) (k : Below w.heap.size w w') : FlS w w' B g OL CL M := ⟨OL, CL, h.below k, Kq.of_below k h.bw, fun k hk => Or.inl hk, fun k hk => Or.inl hk⟩
theorem FlS.step {OL1 CL1 : List Nat} (h1 : FlW w' B g OL1 CL1 M) (k1 : Kq B OL w w') (n1 : ∀ k ∈ OL1, k ∈ OL ∨ w.heap.size ≤ k) (m1 : ∀ k ∈ CL1, k ∈ CL ∨ w.heap.size ≤ k) (h2 : FlS w' w2 B g OL1 CL1 M2) : FlS w w2 B g OL CL M2 := by
  obtain ⟨OL2, CL2, f2, k2, n2, m2⟩ := h2
  refine ⟨OL2, CL2, f2, ⟨k1.below.trans k2.below, fun k hk hn => ?_⟩, fun k hk => ?_, fun k hk => ?_⟩
  · exact (k2.other k (Nat.lt_of_lt_of_le hk k1.below.size) (fun h => by
      rcases n1 k h with h | h
      · exact hn h
      · omega)).trans (k1.other k hk hn)
  · rcases n2 k hk with h | h
    · exact n1 k h
    · exact Or.inr (Nat.le_trans k1.below.size h)
  · rcases m2 k hk with h | h
    · exact m1 k h
    · exact Or.inr (Nat.le_trans k1.below.size h)
theorem FlS.below2 (h : FlS w w' B g OL CL M) (k : Below w'.heap.size w' w2) : FlS w w2 B g OL CL M := by
  obtain ⟨OL1, CL1, f1, k1, n1, m1⟩ := h
  exact FlS.step f1 k1 n1 m1 (FlS.of_below f1 k)
/-- A call behind allocations. -/
theorem FlS.after (h : FlW w B g OL CL M) (k : Below w.heap.size w w') (h2 : FlS w' w2 B g OL CL M2) : FlS w w2 B g OL CL M2 := FlS.step (h.below k) (Kq.of_below k h.bw) (fun k hk => Or.inl hk) (fun k hk => Or.inl hk) h2
def keepT (T : List (List UInt8)) (s : List UInt8) : List (List UInt8) := if s ∈ T then T else T ++ [s]
theorem keepT_len (T : List (List UInt8)) (s : List UInt8) : (keepT T s).length ≤ T.length + 1 := by
  unfold keepT
  split
  · omega
  · rw [List.length_append]; simp
theorem keep_any (s : ByteArray) (h : FlW w B g OL CL M) (hs : s.size ≤ 1000000) (hT : M.T.length ≤ 100000) : Calls Try.prog 34 #[.pointer (some ⟨g, 0, none⟩), .string s] w fun e w' => e = .returned (.int .i64 ((keepT M.T s.data.toList).idxOf s.data.toList : Nat)) ∧ FlS w w' B g OL CL { M with T := keepT M.T s.data.toList } := by
  obtain ⟨vt, vf, vc, cm, bm, D, h, rfl, rfl⟩ := h
  by_cases hin : s.data.toList ∈ M.T
  · have e : keepT M.T s.data.toList = M.T := if_pos hin
    rw [e]
    refine (keep_old s h hs hin).mono ?_
    rintro e w' ⟨rfl, rfl⟩
    exact ⟨rfl, FlS.refl ⟨vt, vf, vc, cm, bm, D, h, rfl, rfl⟩⟩
  · have e : keepT M.T s.data.toList = M.T ++ [s.data.toList] := if_neg hin
    rw [e, List.idxOf_append, if_neg hin]
    refine (keep_new s h hs hin hT).mono ?_
    rintro e w' ⟨vt', D', rfl, hF, hK, hL⟩
    refine ⟨by simp, _, _, ⟨vt', vf, vc, cm, bm, D', hF, rfl, rfl⟩, hK, fun k hk => ?_, fun k hk => Or.inl hk⟩
    rcases mem_own.1 hk with h | h | h | h | h
    · exact Or.inl (mem_own.2 (Or.inl h))
    · exact Or.inl (mem_own.2 (Or.inr (Or.inl h)))
    · rcases hL k h with h | h
      · exact Or.inl (mem_own.2 (Or.inr (Or.inr (Or.inl h))))
      · exact Or.inr h
    · exact Or.inl (mem_own.2 (Or.inr (Or.inr (Or.inr (Or.inl h)))))
    · exact Or.inl (mem_own.2 (Or.inr (Or.inr (Or.inr (Or.inr h)))))
end
/-- Texts and numbers behind some blocks. -/
def wrS (x : List (List UInt8) × List Nat) (p : List UInt8) : List (List UInt8) × List Nat := (keepT x.1 p, x.2 ++ [(keepT x.1 p).idxOf p])
def wrL (T : List (List UInt8)) (ps : List (List UInt8)) : List (List UInt8) × List Nat := ps.foldl wrS (T, [])
theorem wrL_succ (T : List (List UInt8)) (l : List UInt8) (i : Nat) : wrL T (pcs l (i + 1)) = wrS (wrL T (pcs l i)) (pcF l i) := by
  unfold wrL
  rw [pcs_succ, List.foldl_append]; rfl
theorem wrL_len (T : List (List UInt8)) (l : List UInt8) : ∀ i, (wrL T (pcs l i)).2.length = i ∧ (wrL T (pcs l i)).1.length ≤ T.length + i
  | 0 => ⟨rfl, Nat.le_refl _⟩
  | i + 1 => by
    obtain ⟨h1, h2⟩ := wrL_len T l i
    rw [wrL_succ]
    unfold wrS
    refine ⟨by rw [List.length_append, h1]; rfl, ?_⟩
    show (keepT (wrL T (pcs l i)).1 (pcF l i)).length ≤ _
    have := keepT_len (wrL T (pcs l i)).1 (pcF l i)
    omega
theorem info_chF : (Try.prog.info? 70).map (fun i => (i.zero, i.size, i.bytes)) = some (some (.agg #[.int .i64 0, .slice none 0 0]), 2, 32) := by kernel_rfl
theorem src_ch {w : World} (a v : Value) (ha : a.oneCell' = true) (hv : v.oneCell' = true) : Src Try.prog 2 58 (.slice (some ⟨w.heap.size, 0, none⟩) 1 1) 1 [a, v] (w.alloc (.cells #[a, v] 70)) :=
  Src.ofSlice _ Try.underlying58 ⟨w.heap.size, 0, none⟩ 1 1 [a, v] rfl (fun j u hu => by
    rcases j with _ | _ | j
    · simp at hu; subst hu; exact World.cell?_alloc_at _ _ _ _ rfl
    · simp at hu; subst hu; exact World.cell?_alloc_at _ _ _ _ rfl
    · simp at hu) (fun u hu => by
    simp at hu
    rcases hu with rfl | rfl
    · exact ha
    · exact hv)
theorem int_row_ch {w : World} {base : Nat} {b : List Nat} {ao : Option Addr} {c : Nat} (h : w.ownsRow base 3 1 (.slice ao b.length c) b.length (nC b)) : ChAt w ao b := by
  rcases h.2 with ⟨e, h0⟩ | ⟨g2, cap, cur, e, q1, q2, q3⟩
  · injection e with e1 e2 e3
    subst e1
    exact ⟨fun hp => by omega, fun a ha => by cases ha⟩
  · injection e with e1 e2 e3
    subst e1
    refine ⟨fun hp => ⟨g2, 0, rfl, (Array.getElem?_eq_some_iff.1 q2).1, fun i hi => ?_⟩, fun a ha => by cases ha; exact ⟨(Array.getElem?_eq_some_iff.1 q2).1, tyAt_cells q2⟩⟩
    subst e3
    have := h.cells (g := g2) rfl i (.int .i64 (b[i] : Int)) (by rw [nC_get, List.getElem?_eq_getElem hi]; rfl)
    rw [Addr.add_lit] at this
    exact this
/-- A change more. -/
theorem FlAt.add_c {w w4 w5 : World} {B g bm : Nat} {M : Fl} {vt vf vc v5 : Value} {cm : List Ch} {D : DataW Unit} (h : FlAt w B g M vt vf vc cm bm D) {a : Nat} {b : List Nat} {ao : Option Addr} {c : Nat} (k4 : Below w.heap.size w w4) (hch : ChAt w4 ao b)
    (O5 : w5.ownsRow B 70 2 v5 (M.C.length + 1) (cm.flatMap chC ++ [.int .i64 (a : Int), .slice ao b.length c])) (G5 : w4.grownBy w5 vc.ownBlock) (L5 : v5.ownBlock = vc.ownBlock ∨ v5.ownBlock = some w4.heap.size) :
    ∃ OL' CL', FlW (w5.setCell ⟨g, 4, none⟩ v5) B g OL' CL' { M with C := M.C ++ [(a, b)] } ∧ Kq B (OwnL g vt vf vc bm) w (w5.setCell ⟨g, 4, none⟩ v5) ∧ (∀ k ∈ OL', k ∈ OwnL g vt vf vc bm ∨ w.heap.size ≤ k) ∧ (∀ k ∈ CL', k ∈ chL cm ∨ ∃ x, ao = some x ∧ x.block = k) := by
  have K4 : Kq B (g :: vc.ownBlock.toList) w w4 := Kq.of_below k4 h.bw
  have hb4 : B ≤ w4.heap.size := Nat.le_trans h.bw k4.size
  have K5 := K4.trans ((Kq.of_grownO G5 hb4 (fun k e => (h.hc.lt k e).1)).wide (M := g :: vc.ownBlock.toList) (fun k hk => by simp at hk ⊢; exact Or.inr hk))
  have h4 := h.below k4
  have hg5 : w5.heap[g]? = some (.cells #[.int .i64 (M.n : Int), vt, .map (some bm), vf, vc] 60 (0, 0)) := (G5.block g h4.lt (fun e => (h4.fc e.symm).2.2.1 rfl)).trans h4.hg
  have hg6 := fl_set4 (v := v5) hg5
  have O6 := own_setF (j := 4) (u := v5) O5 hg5 (by decide)
  have K6 : Kq B (g :: vc.ownBlock.toList) w (w5.setCell ⟨g, 4, none⟩ v5) := K5.setCell _ _ h.bg (by simp)
  have s6 : (w5.setCell ⟨g, 4, none⟩ v5).heap.size = w5.heap.size := by simp [World.setCell]
  have hout : ∀ k, k ∈ g :: vc.ownBlock.toList ↔ k = g ∨ vc.ownBlock = some k := fun k => by simp
  have hch6 : ∀ {ao b}, ChAt w4 ao b → ChAt (w5.setCell ⟨g, 4, none⟩ v5) ao b := fun {ao b} hx => hx.same (by rw [s6]; exact G5.size) (fun a ea => (Below.heap_setCell w5 ⟨g, 4, none⟩ v5 a.block (fun e1 => by have e := (hx.2 a ea).2; rw [e1, tyAt_cells h4.hg] at e; revert e; decide)).trans (G5.block a.block (hx.2 a ea).1 (fun e1 => by have e := (hx.2 a ea).2; rw [tyAt_row h4.hc e1.symm] at e; revert e; decide)))
  refine ⟨OwnL g vt vf v5 bm, _, ⟨vt, vf, v5, cm ++ [⟨a, b, ao, c⟩], bm, D, ?_, rfl, rfl⟩, K6.wide (fun k hk => mem_own.2 (by
    rcases (hout k).1 hk with h | h
    · exact Or.inl h
    · exact Or.inr (Or.inr (Or.inr (Or.inr h))))), fun k hk => ?_, fun k hk => ?_⟩
  · exact
      { hg := hg6
        bg := h.bg
        ht := own_at_block h.ht (fun k e => K6.other k (h.ht.lt k e).2 (fun hm => by
          rcases (hout k).1 hm with h1 | h1
          · exact (h.tf e).2.2.1 h1
          · exact (h.tf e).2.1 h1))
        hm := map_at_block h.hm (K6.other bm (World.ownsMap.lt h.hm) (fun hm => by
          rcases (hout bm).1 hm with h1 | h1
          · exact h.gbm h1.symm
          · exact (h.fc h1).2.2.2 rfl))
        bb := h.bb
        ix := h.ix
        hf := own_at_block h.hf (fun k e => K6.other k (h.hf.lt k e).2 (fun hm => by
          rcases (hout k).1 hm with h1 | h1
          · exact (h.ff e).2.2.1 h1
          · exact (h.ff e).2.1 h1))
        hc := by
          show (w5.setCell ⟨g, 4, none⟩ v5).ownsRow B 70 2 v5 (M.C ++ [(a, b)]).length _
          rw [List.length_append, List.flatMap_append]
          exact O6
        ch := fun x hx => by
          rcases List.mem_append.1 hx with hx | hx
          · exact hch6 ((h.ch x hx).below k4)
          · rw [List.mem_singleton.1 hx]; exact hch6 hch
        ce := by
          show M.C ++ [(a, b)] = _
          rw [h.ce, List.map_append]; rfl }
  · rcases mem_own.1 hk with h1 | h1 | h1 | h1 | h1
    · exact Or.inl (mem_own.2 (Or.inl h1))
    · exact Or.inl (mem_own.2 (Or.inr (Or.inl h1)))
    · exact Or.inl (mem_own.2 (Or.inr (Or.inr (Or.inl h1))))
    · exact Or.inl (mem_own.2 (Or.inr (Or.inr (Or.inr (Or.inl h1)))))
    · rcases L5 with h2 | h2
      · exact Or.inl (mem_own.2 (Or.inr (Or.inr (Or.inr (Or.inr (by rw [← h2]; exact h1))))))
      · rw [h2] at h1
        cases h1
        exact Or.inr k4.size
  · obtain ⟨x, hx, y, ey, rfl⟩ := chL_mem.1 hk
    rcases List.mem_append.1 hx with hx | hx
    · exact Or.inl (chL_mem.2 ⟨x, hx, y, ey, rfl⟩)
    · rw [List.mem_singleton.1 hx] at ey
      exact Or.inr ⟨y, ey, rfl⟩
theorem FlS.join {w w1 w2 : World} {B g : Nat} {OL CL OL1 CL1 OL2 CL2 : List Nat} {M : Fl} {ao : Option Addr} (k1 : Kq B OL w w1) (n1 : ∀ k ∈ OL1, k ∈ OL ∨ w.heap.size ≤ k) (m1 : ∀ k ∈ CL1, k ∈ CL ∨ w.heap.size ≤ k) (f2 : FlW w2 B g OL2 CL2 M) (k2 : Kq B OL1 w1 w2) (n2 : ∀ k ∈ OL2, k ∈ OL1 ∨ w1.heap.size ≤ k) (m2 : ∀ k ∈ CL2, k ∈ CL1 ∨ ∃ x, ao = some x ∧ x.block = k) (ha : ∀ x, ao = some x → w.heap.size ≤ x.block) : FlS w w2 B g OL CL M := by
  refine ⟨OL2, CL2, f2, ⟨k1.below.trans k2.below, fun k hk hn => ?_⟩, fun k hk => ?_, fun k hk => ?_⟩
  · exact (k2.other k (Nat.lt_of_lt_of_le hk k1.below.size) (fun h => by
      rcases n1 k h with h | h
      · exact hn h
      · omega)).trans (k1.other k hk hn)
  · rcases n2 k hk with h | h
    · exact n1 k h
    · exact Or.inr (Nat.le_trans k1.below.size h)
  · rcases m2 k hk with h | ⟨x, hx, rfl⟩
    · exact m1 k h
    · exact Or.inr (ha x hx)
theorem refF_ok {m : Nat} {a n : Int} (h : refF m a n = 0) : 1 ≤ n ∧ 0 ≤ a ∧ a + n ≤ (m : Int) := by
  unfold refF at h
  by_cases h1 : n < 1
  · rw [if_pos h1] at h; cases h
  · rw [if_neg h1] at h
    by_cases h2 : a < 0 ∨ (m : Int) - n < a
    · rw [if_pos h2] at h; cases h
    · omega
theorem whole_ok {n : Nat} (h : 1 ≤ (wholeN n : Int)) : n = 48 * wholeN n := by
  unfold wholeN at h ⊢
  by_cases h1 : n % 48 = 0
  · rw [if_pos h1]; omega
  · rw [if_neg h1] at h; omega
def wrM (M : Fl) (a : Nat) (l : List UInt8) (k : Nat) : Fl := { M with T := (wrL M.T (pcs l k)).1, C := M.C ++ [(a, (wrL M.T (pcs l k)).2)] }
end Go.Proofs.Ytaemnelfnopjdaa
