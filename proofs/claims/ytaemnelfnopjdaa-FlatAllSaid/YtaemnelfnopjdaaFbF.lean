/- FlatAll: its argument opened; the law's own row of texts. -/
import Derived.Test.YtaemnelfnopjdaaFbE
import Derived.Test.YtaemnelfnopjdaaFbB
namespace Go.Proofs.Ytaemnelfnopjdaa
open Go.ChangeShapes Go.WideShapes Go.Deep Go.RowKit Go.Maps
set_option linter.unusedVariables false
set_option linter.unusedSimpArgs false
/-- The law's own row of texts, apart from a model's blocks. -/
def AlR (w : World) (B : Nat) (v : Value) (L : List (List UInt8)) (OL CL : List Nat) : Prop := w.ownsRow B 9 1 v L.length (strF L) ∧ ∀ k, v.ownBlock = some k → k ∉ OL ∧ k ∉ CL
section
variable {w w' : World} {B g : Nat} {v : Value} {L : List (List UInt8)} {OL CL OL' CL' : List Nat} {M : Fl}
theorem AlR.fls (h : AlR w B v L OL CL) (k : Kq B OL w w') (n1 : ∀ j ∈ OL', j ∈ OL ∨ w.heap.size ≤ j) (m1 : ∀ j ∈ CL', j ∈ CL ∨ w.heap.size ≤ j) : AlR w' B v L OL' CL' := by
  refine ⟨own_at_block h.1 (fun j e => k.other j (h.1.lt j e).2 (h.2 j e).1), fun j e => ⟨fun hm => ?_, fun hm => ?_⟩⟩
  · rcases n1 j hm with h1 | h1
    · exact (h.2 j e).1 h1
    · have := (h.1.lt j e).2; omega
  · rcases m1 j hm with h1 | h1
    · exact (h.2 j e).2 h1
    · have := (h.1.lt j e).2; omega
theorem AlR.below (h : AlR w B v L OL CL) (k : Below w.heap.size w w') : AlR w' B v L OL CL :=
  ⟨own_at_block h.1 (fun j e => k.block j (h.1.lt j e).2), h.2⟩
theorem FlW.ltW (h : FlW w B g OL CL M) {k : Nat} (hk : k ∈ OL ∨ k ∈ CL) : k < w.heap.size := by
  rcases hk with hk | hk
  · exact (h.own_lt hk).1
  · exact (h.ch_ty hk).1
theorem AlR.one (h : FlW w B g OL CL M) (l : List UInt8) (s : ByteArray) (hs : s = ⟨l.toArray⟩) : AlR (w.alloc (.cells #[.string s] 9)) B (.slice (some ⟨w.heap.size, 0, none⟩) 1 1) [l] OL CL := by
  subst hs
  refine ⟨own_of_block (cur := #[.string ⟨l.toArray⟩]) (heap_alloc_new _ _) rfl h.bw (by unfold maxLen; decide), fun k e => ?_⟩
  cases e
  exact ⟨fun hm => Nat.lt_irrefl _ (h.ltW (Or.inl hm)), fun hm => Nat.lt_irrefl _ (h.ltW (Or.inr hm))⟩
theorem AlR.grow {v' : Value} {l : List UInt8} (h : AlR w B v L OL CL) (hf : FlW w B g OL CL M) (hr : w'.ownsRow B 9 1 v' (L.length + 1) (strF L ++ [.string ⟨l.toArray⟩])) (hg : w.grownBy w' v.ownBlock) (hv : v'.ownBlock = v.ownBlock ∨ v'.ownBlock = some w.heap.size) : AlR w' B v' (L ++ [l]) OL CL ∧ FlW w' B g OL CL M ∧ Below B w w' := by
  have hbl := Kq.of_grownO hg hf.bw (fun k e => (h.1.lt k e).1)
  refine ⟨⟨?_, fun k e => ?_⟩, hf.kq hbl (fun j hj hm => ?_) (fun j hj hm => ?_), hbl.below⟩
  · rw [List.length_append, strF_app]; exact hr
  · rcases hv with hv | hv
    · rw [hv] at e; exact h.2 k e
    · rw [hv] at e
      cases e
      exact ⟨fun hm => Nat.lt_irrefl _ (hf.ltW (Or.inl hm)), fun hm => Nat.lt_irrefl _ (hf.ltW (Or.inr hm))⟩
  · simp at hm; exact (h.2 j hm).1 hj
  · simp at hm; exact (h.2 j hm).2 hj
theorem AlR.cell (h : AlR w B v L OL CL) (hp : 0 < L.length) : ∃ g c, v = .slice (some ⟨g, 0, none⟩) L.length c ∧ L.length ≤ c ∧ B ≤ g ∧ g < w.heap.size ∧ ∀ i (hi : i < L.length), w.cell? ⟨g, i, none⟩ = some (.string ⟨(L[i]).toArray⟩) := by
  obtain ⟨g, c, e, h1, h2, h3, h4⟩ := own_rowG h.1 hp
  refine ⟨g, c, e, h1, h2, h3, fun i hi => ?_⟩
  have := h4 i (.string ⟨(L[i]).toArray⟩) (by unfold strF; rw [List.getElem?_map, List.getElem?_eq_getElem hi]; rfl)
  rw [Nat.zero_add] at this
  exact this
end
theorem four_fields26 : ∃ f0 f1 f2 f3, Try.prog.underlying 48 = some (.struct #[f0, f1, f2, f3]) ∧ (f0.type = 5 ∧ f0.offset = 0) ∧ (f1.type = 22 ∧ f1.offset = 1) ∧ (f2.type = 5 ∧ f2.offset = 2) ∧ (f3.type = 46 ∧ f3.offset = 3) :=
  ⟨_, _, _, _, Try.underlying48, ⟨rfl, rfl⟩, ⟨rfl, rfl⟩, ⟨rfl, rfl⟩, ⟨rfl, rfl⟩⟩
section
variable {H : Type} {enc : TypeId × Value → H} {w : World}
theorem open_byN {n : Nat} {v : Value} {y : DataW H × List MemPlace} (h : DataW.trod enc Try.prog w 0 (fun _ => true) true n 46 [v] = some y) :
    ∃ (ao : Option Addr) (cap : Nat) (L : List UInt8), v = .slice ao L.length cap ∧ L.length ≤ cap ∧ cap ≤ maxLen ∧ BysF w ao L := by
  rcases open_slice Try.underlying46 h with ⟨hcs, _⟩ | ⟨a, len, cap, m, n', D, Pl, hcs, hb, hl, hm, hmm, hx, hi⟩
  · simp at hcs
    subst hcs
    exact ⟨none, 0, [], rfl, by simp, by unfold maxLen; omega, fun h => by simp at h⟩
  · simp at hcs
    subst hcs
    have hp : ∀ i, i < len → ∃ x : UInt8, w.cell? (a.add i) = some (.int .u8 (x.toNat : Int)) := fun i hil => by
      have him : i < m := by rw [hmm]; split <;> omega
      obtain ⟨cs', hc, ht'⟩ := hi i him
      rw [show Try.prog.cellsOf 5 = 1 from by kernel_rfl] at hc
      obtain ⟨_, hcl, hat⟩ := World.cells?_some hc
      obtain ⟨c0, rfl⟩ : ∃ c, cs' = [c] := by
        rcases cs' with _ | ⟨c, _ | ⟨c2, r⟩⟩
        · simp at hcl
        · exact ⟨c, rfl⟩
        · simp at hcl
      obtain ⟨z, hz, hw⟩ := field_int Try.underlying5 ht'
      refine ⟨UInt8.ofNat z.toNat, ?_⟩
      have := hat 0 (by simp)
      rw [Go.Deep.add_add, Nat.add_zero, Nat.mul_one] at this
      rw [u8_wfF hw]
      simpa [hz] using this
    by_cases h0 : 0 < len
    · obtain ⟨x0, c0⟩ := hp 0 h0
      obtain ⟨b, off, spot⟩ := a
      have hspot : spot = none := by
        have := World.cell?_spot c0
        simpa [Addr.add] using this
      subst hspot
      obtain ⟨ps, h1, h2⟩ := list_of_ex len _ hp
      subst h1
      refine ⟨_, _, ps, rfl, hl, hm, fun _ => ⟨b, off, rfl, by simpa [Addr.add] using block_lt_of_cell c0, fun i hil => ?_⟩⟩
      have h3 := h2 i hil
      rw [Addr.add_lit] at h3
      exact h3
    · obtain rfl : len = 0 := by omega
      exact ⟨_, _, [], rfl, hl, hm, fun h => by simp at h⟩
set_option maxRecDepth 100000 in
theorem open_four26 {r : Reach} {b0 : Nat} {v : Value} {d : DataW H} {p : List MemPlace} (hok : Value.okWide Try.prog w r b0 48 v) (h : DataW.Trod enc Try.prog w 0 (fun _ => true) true 48 v d p) :
    ∃ (z : Nat) (aL : Option Addr) (cL : Nat) (L : List AcF) (pk : Nat) (aO : Option Addr) (cO : Nat) (O : List UInt8), v = .agg #[.int .u8 (z : Int), .slice aL L.length cL, .int .u8 (pk : Int), .slice aO O.length cO] ∧ z ≤ 255 ∧ pk ≤ 255 ∧ L.length ≤ cL ∧ cL ≤ maxLen ∧ AfAt w aL L ∧ (∀ x ∈ L, AcOk x) ∧ O.length ≤ cO ∧ cO ≤ maxLen ∧ BysF w aO O := by
  obtain ⟨f0, f1, f2, f3, hs, ⟨t0, o0⟩, ⟨t1, o1⟩, ⟨t2, o2⟩, ⟨t3, o3⟩⟩ := four_fields26
  obtain ⟨cs, rfl, hsz⟩ := okWide_struct hs hok
  obtain ⟨l⟩ := cs
  have hl : l.length = 4 := hsz.trans (by kernel_rfl)
  obtain ⟨fuel, hf⟩ := h
  have e0 : (Value.agg ⟨l⟩).cells.toList = l := by simp [Value.cells]
  rw [e0] at hf
  obtain ⟨ys, n2, hn', hy, hlen, hyl, hf'⟩ := DataW.trod_struct hs hf
  have hyl4 : ys.length = 4 := hyl
  obtain ⟨y0, g0⟩ : ∃ y, ys[0]? = some y := ⟨_, List.getElem?_eq_getElem (by omega)⟩
  obtain ⟨y1, g1⟩ : ∃ y, ys[1]? = some y := ⟨_, List.getElem?_eq_getElem (by omega)⟩
  obtain ⟨y2, g2⟩ : ∃ y, ys[2]? = some y := ⟨_, List.getElem?_eq_getElem (by omega)⟩
  obtain ⟨y3, g3⟩ : ∃ y, ys[3]? = some y := ⟨_, List.getElem?_eq_getElem (by omega)⟩
  have k0 := hf' 0 f0 rfl
  have k1 := hf' 1 f1 rfl
  have k2 := hf' 2 f2 rfl
  have k3 := hf' 3 f3 rfl
  rw [t0, o0, g0, show Try.prog.cellsOf 5 = 1 from by kernel_rfl, take_one _ _ (by omega)] at k0
  rw [t1, o1, g1, show Try.prog.cellsOf 22 = 1 from by kernel_rfl, take_one _ _ (by omega)] at k1
  rw [t2, o2, g2, show Try.prog.cellsOf 5 = 1 from by kernel_rfl, take_one _ _ (by omega)] at k2
  rw [t3, o3, g3, show Try.prog.cellsOf 46 = 1 from by kernel_rfl, take_one _ _ (by omega)] at k3
  obtain ⟨z, e0, hw0⟩ := field_int Try.underlying5 k0
  obtain ⟨aL, cL, L, e1, p1, p2, p3, p4⟩ := open_afN k1
  obtain ⟨pk, e2, hw2⟩ := field_int Try.underlying5 k2
  obtain ⟨aO, cO, O, e3, r1, r2, r3⟩ := open_byN k3
  have hb : ∀ {z : Int}, (Lit.int .u8 z).wf = true → 0 ≤ z ∧ z ≤ 255 := fun {z} hw => by
    have h2 : IntKind.u8.min ≤ z ∧ z ≤ IntKind.u8.max := by simpa [Lit.wf] using hw
    rw [show IntKind.u8.min = 0 from by decide, show IntKind.u8.max = 255 from by decide] at h2
    exact h2
  have b0 := hb hw0
  have b2 := hb hw2
  obtain ⟨z, rfl⟩ : ∃ q : Nat, z = (q : Int) := ⟨z.toNat, by omega⟩
  obtain ⟨pk, rfl⟩ : ∃ q : Nat, pk = (q : Int) := ⟨pk.toNat, by omega⟩
  refine ⟨z, aL, cL, L, pk, aO, cO, O, ?_, by omega, by omega, p1, p2, p3, p4, r1, r2, r3⟩
  congr 1
  apply Array.ext_getElem?
  intro i
  rw [List.getElem?_toArray]
  rcases i with _ | _ | _ | _ | i
  · rw [List.getElem?_eq_getElem (by omega), e0]; rfl
  · rw [List.getElem?_eq_getElem (by omega), e1]; rfl
  · rw [List.getElem?_eq_getElem (by omega), e2]; rfl
  · rw [List.getElem?_eq_getElem (by omega), e3]; rfl
  · rw [List.getElem?_eq_none (by omega)]; rfl
end
end Go.Proofs.Ytaemnelfnopjdaa
