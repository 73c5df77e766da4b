/- Acts of the law (flat) opened. -/
import Derived.Test.YtaemnelfnopjdaaFaX
import Derived.Test.YtaemnelfnopjdaaOpenR
namespace Go.Proofs.Ytaemnelfnopjdaa
open Go.ChangeShapes Go.WideShapes Go.Deep Go.RowKit
set_option linter.unusedVariables false
set_option linter.unusedSimpArgs false
theorem list_of_ex {α : Type} : ∀ (n : Nat) (p : Nat → α → Prop), (∀ i, i < n → ∃ x, p i x) → ∃ X : List α, X.length = n ∧ ∀ i (h : i < X.length), p i X[i]
  | 0, p, _ => ⟨[], rfl, fun i h => absurd h (Nat.not_lt_zero _)⟩
  | n + 1, p, h => by
    obtain ⟨X, h1, h2⟩ := list_of_ex n p (fun i hi => h i (by omega))
    obtain ⟨x, hx⟩ := h n (by omega)
    refine ⟨X ++ [x], by simp [h1], fun i hi => ?_⟩
    by_cases e : i < X.length
    · rw [List.getElem_append_left e]; exact h2 i e
    · have : i = n := by simp at hi; omega
      subst this
      rw [List.getElem_append_right (by omega)]
      simpa [h1] using hx
theorem inI_of {a : Int} (h : (Lit.int .i64 a).wf = true) : InI a := by
  have : decide (-9223372036854775808 ≤ a) && decide (a ≤ 9223372036854775807) := h
  simpa [InI] using this
theorem u8_wfF {z : Int} (h : (Lit.int .u8 z).wf = true) : ((UInt8.ofNat z.toNat).toNat : Int) = z := by
  have h2 : IntKind.u8.min ≤ z ∧ z ≤ IntKind.u8.max := by simpa [Lit.wf] using h
  rw [show IntKind.u8.min = 0 from by decide, show IntKind.u8.max = 255 from by decide] at h2
  obtain ⟨h3, h4⟩ := h2
  rw [UInt8.toNat_ofNat']
  omega
def AcOk (x : AcF) : Prop := InI x.k ∧ InI x.a ∧ InI x.n
def AcC (w : World) (g o : Nat) (x : AcF) : Prop := w.cell? ⟨g, o, none⟩ = some (.int .i64 x.k) ∧ w.cell? ⟨g, o + 1, none⟩ = some (.int .i64 x.a) ∧ w.cell? ⟨g, o + 2, none⟩ = some (.int .i64 x.n) ∧ w.cell? ⟨g, o + 3, none⟩ = some (.int .u8 (x.c.toNat : Int)) ∧ w.cell? ⟨g, o + 4, none⟩ = some (.bool x.o)
theorem AcC.below {w w' : World} {g o : Nat} {x : AcF} (h : AcC w g o x) (hg : g < w.heap.size) (b : Below w.heap.size w w') : AcC w' g o x :=
  ⟨(b.cell (p := ⟨g, o, none⟩) hg).trans h.1, (b.cell (p := ⟨g, o + 1, none⟩) hg).trans h.2.1, (b.cell (p := ⟨g, o + 2, none⟩) hg).trans h.2.2.1, (b.cell (p := ⟨g, o + 3, none⟩) hg).trans h.2.2.2.1, (b.cell (p := ⟨g, o + 4, none⟩) hg).trans h.2.2.2.2⟩
/-- Acts behind a slice. -/
def AfAt (w : World) (ao : Option Addr) (L : List AcF) : Prop := 0 < L.length → ∃ g o, ao = some ⟨g, o, none⟩ ∧ g < w.heap.size ∧ ∀ i (hi : i < L.length), AcC w g (o + i * 5) L[i]
theorem AfAt.below {w w' : World} {ao : Option Addr} {L : List AcF} (h : AfAt w ao L) (b : Below w.heap.size w w') : AfAt w' ao L := fun hp => by
  obtain ⟨g, o, e, hg, hc⟩ := h hp
  exact ⟨g, o, e, Nat.lt_of_lt_of_le hg b.size, fun i hi => (hc i hi).below hg b⟩
theorem act_fieldsF : ∃ f0 f1 f2 f3 f4, Try.prog.underlying 32 = some (.struct #[f0, f1, f2, f3, f4]) ∧ (f0.type = 3 ∧ f0.offset = 0) ∧ (f1.type = 3 ∧ f1.offset = 1) ∧ (f2.type = 3 ∧ f2.offset = 2) ∧ (f3.type = 5 ∧ f3.offset = 3) ∧ (f4.type = 4 ∧ f4.offset = 4) :=
  ⟨_, _, _, _, _, Try.underlying32, ⟨rfl, rfl⟩, ⟨rfl, rfl⟩, ⟨rfl, rfl⟩, ⟨rfl, rfl⟩, ⟨rfl, rfl⟩⟩
section
variable {H : Type} {enc : TypeId × Value → H} {w : World}
theorem ac_cells {n : Nat} {cs : List Value} {y : DataW H × List MemPlace} (h : DataW.trod enc Try.prog w 0 (fun _ => true) true n 32 cs = some y) : cs.length = 5 ∧ ∃ x : AcF, cs[0]? = some (.int .i64 x.k) ∧ cs[1]? = some (.int .i64 x.a) ∧ cs[2]? = some (.int .i64 x.n) ∧ cs[3]? = some (.int .u8 (x.c.toNat : Int)) ∧ cs[4]? = some (.bool x.o) ∧ AcOk x := by
  obtain ⟨f0, f1, f2, f3, f4, hs, ⟨t0, o0⟩, ⟨t1, o1⟩, ⟨t2, o2⟩, ⟨t3, o3⟩, ⟨t4, o4⟩⟩ := act_fieldsF
  obtain ⟨ys, n2, hn', hy, hlen, hyl, hf'⟩ := DataW.trod_struct hs h
  have hcl : cs.length = 5 := hlen.trans (by kernel_rfl)
  have hyl2 : ys.length = 5 := hyl
  obtain ⟨y0, g0⟩ : ∃ y, ys[0]? = some y := ⟨_, List.getElem?_eq_getElem (by omega)⟩
  obtain ⟨y1, g1⟩ : ∃ y, ys[1]? = some y := ⟨_, List.getElem?_eq_getElem (by omega)⟩
  obtain ⟨y2, g2⟩ : ∃ y, ys[2]? = some y := ⟨_, List.getElem?_eq_getElem (by omega)⟩
  obtain ⟨y3, g3⟩ : ∃ y, ys[3]? = some y := ⟨_, List.getElem?_eq_getElem (by omega)⟩
  obtain ⟨y4, g4⟩ : ∃ y, ys[4]? = some y := ⟨_, List.getElem?_eq_getElem (by omega)⟩
  have k0 := hf' 0 f0 rfl
  have k1 := hf' 1 f1 rfl
  have k2 := hf' 2 f2 rfl
  have k3 := hf' 3 f3 rfl
  have k4 := hf' 4 f4 rfl
  have ci : Try.prog.cellsOf 3 = 1 := by kernel_rfl
  rw [t0, o0, g0, ci, take_one _ _ (by omega)] at k0
  rw [t1, o1, g1, ci, take_one _ _ (by omega)] at k1
  rw [t2, o2, g2, ci, take_one _ _ (by omega)] at k2
  rw [t3, o3, g3, show Try.prog.cellsOf 5 = 1 from by kernel_rfl, take_one _ _ (by omega)] at k3
  rw [t4, o4, g4, show Try.prog.cellsOf 4 = 1 from by kernel_rfl, take_one _ _ (by omega)] at k4
  obtain ⟨z0, hz0, hw0⟩ := field_int Try.underlying3 k0
  obtain ⟨z1, hz1, hw1⟩ := field_int Try.underlying3 k1
  obtain ⟨z2, hz2, hw2⟩ := field_int Try.underlying3 k2
  obtain ⟨z3, hz3, hw3⟩ := field_int Try.underlying5 k3
  obtain ⟨b4, hz4⟩ := field_bool Try.underlying4 k4
  exact ⟨hcl, ⟨z0, z1, z2, UInt8.ofNat z3.toNat, b4⟩, by rw [List.getElem?_eq_getElem (by omega), hz0], by rw [List.getElem?_eq_getElem (by omega), hz1], by rw [List.getElem?_eq_getElem (by omega), hz2], by rw [List.getElem?_eq_getElem (by omega), hz3]; show _ = some (Value.int .u8 ((UInt8.ofNat z3.toNat).toNat : Int)); rw [u8_wfF hw3], by rw [List.getElem?_eq_getElem (by omega), hz4], inI_of hw0, inI_of hw1, inI_of hw2⟩
theorem open_afN {n : Nat} {v : Value} {y : DataW H × List MemPlace} (h : DataW.trod enc Try.prog w 0 (fun _ => true) true n 22 [v] = some y) :
    ∃ (ao : Option Addr) (cap : Nat) (L : List AcF), v = .slice ao L.length cap ∧ L.length ≤ cap ∧ cap ≤ maxLen ∧ AfAt w ao L ∧ ∀ x ∈ L, AcOk x := by
  rcases open_slice Try.underlying22 h with ⟨hcs, _⟩ | ⟨a, len, cap, m, n', D, Pl, hcs, hb, hl, hm, hmm, hx, hi⟩
  · simp at hcs
    subst hcs
    exact ⟨none, 0, [], rfl, by simp, by unfold maxLen; omega, fun h => by simp at h, fun x hx => by simp at hx⟩
  · simp at hcs
    subst hcs
    have hp : ∀ i, i < len → ∃ x : AcF, (w.cell? (a.add (i * 5 + 0)) = some (.int .i64 x.k) ∧ w.cell? (a.add (i * 5 + 1)) = some (.int .i64 x.a) ∧ w.cell? (a.add (i * 5 + 2)) = some (.int .i64 x.n) ∧ w.cell? (a.add (i * 5 + 3)) = some (.int .u8 (x.c.toNat : Int)) ∧ w.cell? (a.add (i * 5 + 4)) = some (.bool x.o)) ∧ AcOk x := fun i hil => by
      have him : i < m := by rw [hmm]; split <;> omega
      obtain ⟨cs', hc, ht'⟩ := hi i him
      rw [show Try.prog.cellsOf 32 = 5 from by kernel_rfl] at hc
      obtain ⟨_, hcl, hat⟩ := World.cells?_some hc
      obtain ⟨_, x, h0, h1, h2, h3, h4, hw⟩ := ac_cells ht'
      refine ⟨x, ⟨?_, ?_, ?_, ?_, ?_⟩, hw⟩
      · rw [← Go.Deep.add_add, hat 0 (by omega)]; exact h0
      · rw [← Go.Deep.add_add, hat 1 (by omega)]; exact h1
      · rw [← Go.Deep.add_add, hat 2 (by omega)]; exact h2
      · rw [← Go.Deep.add_add, hat 3 (by omega)]; exact h3
      · rw [← Go.Deep.add_add, hat 4 (by omega)]; exact h4
    by_cases h0 : 0 < len
    · obtain ⟨x0, ⟨c0, _⟩, _⟩ := hp 0 h0
      obtain ⟨b, off, spot⟩ := a
      have hspot : spot = none := by
        have := World.cell?_spot c0
        simpa [Addr.add] using this
      subst hspot
      obtain ⟨ps, h1, h2⟩ := list_of_ex len _ hp
      subst h1
      refine ⟨_, _, ps, rfl, hl, hm, fun _ => ⟨b, off, rfl, by simpa [Addr.add] using block_lt_of_cell c0, fun i hil => ?_⟩, fun x hx => ?_⟩
      · have h3 := (h2 i hil).1
        rw [Addr.add_lit, Addr.add_lit, Addr.add_lit, Addr.add_lit, Addr.add_lit] at h3
        exact h3
      · obtain ⟨i, hi', rfl⟩ := List.getElem_of_mem hx
        exact (h2 i hi').2
    · obtain rfl : len = 0 := by omega
      exact ⟨_, _, [], rfl, hl, hm, fun h => by simp at h, fun x hx => by simp at hx⟩
theorem open_af {v : Value} {d : DataW H} {p : List MemPlace} (hv : ∃ a len cap, v = .slice a len cap) (h : DataW.Trod enc Try.prog w 0 (fun _ => true) true 22 v d p) :
    ∃ (ao : Option Addr) (cap : Nat) (L : List AcF), v = .slice ao L.length cap ∧ L.length ≤ cap ∧ cap ≤ maxLen ∧ AfAt w ao L ∧ ∀ x ∈ L, AcOk x := by
  obtain ⟨a', len', cap', rfl⟩ := hv
  obtain ⟨n, hh⟩ := h
  have ec : (Value.slice a' len' cap').cells.toList = [.slice a' len' cap'] := by simp [Value.cells]
  rw [ec] at hh
  exact open_afN hh
end
end Go.Proofs.Ytaemnelfnopjdaa
