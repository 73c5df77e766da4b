/- The law's do (flat): both models go on alike. -/
import Derived.Test.YtaemnelfnopjdaaFcI
namespace Go.Proofs.Ytaemnelfnopjdaa
open Go.ChangeShapes Go.WideShapes Go.Deep Go.RowKit Go.Maps
set_option linter.unusedVariables false
set_option linter.unusedSimpArgs false
structure PairF (w : World) (B f x : Nat) (OL CL : List Nat) (M : Fl) (cs : List RC) (gc cap : Nat) : Prop where
  fl : FlW w B f OL CL M
  rf : RfW w B x M.n cs gc cap
  ok : FlOk M
  rel : RelF M cs
  nx : x ∉ OL
  nc : gc ∉ OL
  nb : ∀ c ∈ cs, c.b ∉ OL
def GrowF (M M' : Fl) : Prop := M'.n = M.n ∧ M'.T.length ≤ M.T.length + 100 ∧ M'.C.length ≤ M.C.length + 1 ∧ M'.F.length ^ 3 * 3 ^ M'.C.length ≤ 3 * (M.F.length ^ 3 * 3 ^ M.C.length)
def PairS (w w' : World) (B f x : Nat) (OL CL : List Nat) (M : Fl) (cs : List RC) (gc : Nat) : Prop := ∃ OL' CL' M' cs' gc' cap', PairF w' B f x OL' CL' M' cs' gc' cap' ∧ Kq B (x :: OL) w w' ∧ (∀ k ∈ OL', k ∈ OL ∨ w.heap.size ≤ k) ∧ (∀ k ∈ CL', k ∈ CL ∨ w.heap.size ≤ k) ∧ (gc' = gc ∨ w.heap.size ≤ gc') ∧ (∀ c ∈ cs', (∃ d ∈ cs, c.b = d.b) ∨ w.heap.size ≤ c.b) ∧ GrowF M M'
section
variable {w w' w1 w2 : World} {B f x gc cap gc' cap' : Nat} {OL CL : List Nat} {M M2 : Fl} {cs new : List RC}
theorem GrowF.refl (M : Fl) : GrowF M M := ⟨rfl, by omega, by omega, by omega⟩
theorem Kq.sub {A : Nat} {N N' : List Nat} (h : Kq A N w w') (hs : ∀ k ∈ N, k ∈ N') : Kq A N' w w' := ⟨h.below, fun k hk hn => h.other k hk (fun hm => hn (hs k hm))⟩
theorem PairF.ltx (h : PairF w B f x OL CL M cs gc cap) : x < w.heap.size := h.rf.lt
theorem PairF.bw (h : PairF w B f x OL CL M cs gc cap) : B ≤ w.heap.size := h.fl.bw
theorem PairF.blt (h : PairF w B f x OL CL M cs gc cap) {c : RC} (hc : c ∈ cs) : c.b < w.heap.size := (h.rf.row c hc).1.1
theorem PairF.below (h : PairF w B f x OL CL M cs gc cap) (k : Below w.heap.size w w') : PairF w' B f x OL CL M cs gc cap :=
  ⟨h.fl.below k, h.rf.below k, h.ok, h.rel, h.nx, h.nc, h.nb⟩
theorem PairF.refl (h : PairF w B f x OL CL M cs gc cap) : PairS w w B f x OL CL M cs gc :=
  ⟨OL, CL, M, cs, gc, cap, h, Kq.refl _ _ _, fun k hk => Or.inl hk, fun k hk => Or.inl hk, Or.inl rfl, fun c hc => Or.inl ⟨c, hc, rfl⟩, GrowF.refl M⟩
theorem PairS.after (b : Below w.heap.size w w1) (hB : B ≤ w.heap.size) (h : PairS w1 w2 B f x OL CL M cs gc) : PairS w w2 B f x OL CL M cs gc := by
  obtain ⟨OL', CL', M', cs', gc', cap', p, k, a1, a2, a3, a4, a5⟩ := h
  have hs := b.size
  refine ⟨OL', CL', M', cs', gc', cap', p, (Kq.of_below b hB).trans k, fun j hj => (a1 j hj).imp id (fun h => by omega), fun j hj => (a2 j hj).imp id (fun h => by omega), a3.imp id (fun h => by omega), fun c hc => (a4 c hc).imp id (fun h => by omega), a5⟩
theorem PairS.then (h : PairS w w1 B f x OL CL M cs gc) (b : Below w1.heap.size w1 w2) : PairS w w2 B f x OL CL M cs gc := by
  obtain ⟨OL', CL', M', cs', gc', cap', p, k, a⟩ := h
  exact ⟨OL', CL', M', cs', gc', cap', p.below b, k.trans (Kq.of_below b p.bw), a⟩
theorem PairF.noclx (h : PairF w B f x OL CL M cs gc cap) {k : Nat} (hk : k ∈ CL) : k ∉ [x] := fun hm => by
  have h1 := (h.fl.ch_ty hk).2
  rw [List.mem_singleton.1 hm, tyAt_cells h.rf.hg] at h1
  revert h1; decide
/-- The reference's call, then the model's. -/
theorem PairF.flw (h : PairF w B f x OL CL M cs gc cap) (k1 : Kq B [x] w w1) : FlW w1 B f OL CL M :=
  h.fl.kq k1 (fun j hj hm => h.nx (by rw [← List.mem_singleton.1 hm]; exact hj)) (fun j hj => h.noclx hj)
theorem PairF.step (h : PairF w B f x OL CL M cs gc cap) (rf' : RfW w1 B x M.n new gc' cap') (k1 : Kq B [x] w w1) (g1 : gc' = gc ∨ w.heap.size ≤ gc') (c1 : ∀ c ∈ new, (∃ d ∈ cs, c.b = d.b) ∨ w.heap.size ≤ c.b) (s : FlS w1 w2 B f OL CL M2) (ok2 : FlOk M2) (r2 : RelF M2 new) (gr : GrowF M M2) : PairS w w2 B f x OL CL M cs gc := by
  obtain ⟨OL2, CL2, f2, k2, n2, m2⟩ := s
  have ho : ∀ {k}, k ∈ OL → k < w.heap.size := fun hk => (h.fl.own_lt hk).1
  have hs := k1.below.size
  have nx : x ∉ OL := h.nx
  have nc : gc' ∉ OL := fun hm => by
    rcases g1 with e | e
    · rw [e] at hm; exact h.nc hm
    · have := ho hm; omega
  have nb : ∀ c ∈ new, c.b ∉ OL := fun c hc hm => by
    rcases c1 c hc with ⟨d, hd, e⟩ | e
    · rw [e] at hm; exact h.nb d hd hm
    · have := ho hm; omega
  have xl : x < w1.heap.size := rf'.lt
  have gl : gc' < w1.heap.size := rf'.lc
  refine ⟨OL2, CL2, M2, new, gc', cap', ⟨f2, by rw [gr.1]; exact rf'.kq k2 nx nc nb, ok2, r2, fun hm => ?_, fun hm => ?_, fun c hc hm => ?_⟩, (k1.sub (by simp)).trans (k2.sub (by simp +contextual)), fun k hk => (n2 k hk).imp id (fun e => by omega), fun k hk => (m2 k hk).imp id (fun e => by omega), g1, c1, gr⟩
  · rcases n2 _ hm with e | e
    · exact nx e
    · omega
  · rcases n2 _ hm with e | e
    · exact nc e
    · omega
  · have := (rf'.row c hc).1.1
    rcases n2 _ hm with e | e
    · exact nb c hc e
    · omega
/-- The model's call, then the reference's. -/
theorem PairF.rfw (h : PairF w B f x OL CL M cs gc cap) (k1 : Kq B OL w w1) : RfW w1 B x M.n cs gc cap := h.rf.kq k1 h.nx h.nc h.nb
theorem PairF.step2 (h : PairF w B f x OL CL M cs gc cap) (s : FlS w w1 B f OL CL M2) (rf' : RfW w2 B x M.n new gc' cap') (k1 : Kq B [x] w1 w2) (g1 : gc' = gc ∨ w1.heap.size ≤ gc') (c1 : ∀ c ∈ new, (∃ d ∈ cs, c.b = d.b) ∨ w1.heap.size ≤ c.b) (ok2 : FlOk M2) (r2 : RelF M2 new) (gr : GrowF M M2) : PairS w w2 B f x OL CL M cs gc := by
  obtain ⟨OL2, CL2, f2, k2, n2, m2⟩ := s
  have hs := k2.below.size
  have xl := h.ltx
  have gl := h.rf.lc
  have nx : x ∉ OL2 := fun hm => by
    rcases n2 _ hm with e | e
    · exact h.nx e
    · omega
  have hty : tyAt w1 x = some 36 := tyAt_cells (h.rfw k2).hg
  have hcl : ∀ k ∈ CL2, k ∉ [x] := fun k hk hm => by
    have h1 := (f2.ch_ty hk).2
    rw [List.mem_singleton.1 hm, hty] at h1
    revert h1; decide
  have ho : ∀ {k}, k ∈ OL2 → k < w1.heap.size := fun hk => (f2.own_lt hk).1
  refine ⟨OL2, CL2, M2, new, gc', cap', ⟨f2.kq k1 (fun j hj hm => nx (by rw [← List.mem_singleton.1 hm]; exact hj)) hcl, by rw [gr.1]; exact rf', ok2, r2, nx, fun hm => ?_, fun c hc hm => ?_⟩, (k2.sub (by simp +contextual)).trans (k1.sub (by simp)), n2, m2, g1.imp id (fun e => by omega), fun c hc => (c1 c hc).imp id (fun e => by omega), gr⟩
  · rcases g1 with e | e
    · rcases n2 _ hm with e2 | e2
      · rw [e] at e2; exact h.nc e2
      · omega
    · have := ho hm; omega
  · rcases c1 c hc with ⟨d, hd, e⟩ | e
    · have := h.blt hd
      rcases n2 _ hm with e2 | e2
      · rw [e] at e2; exact h.nb d hd e2
      · omega
    · have := ho hm; omega
end
end Go.Proofs.Ytaemnelfnopjdaa
