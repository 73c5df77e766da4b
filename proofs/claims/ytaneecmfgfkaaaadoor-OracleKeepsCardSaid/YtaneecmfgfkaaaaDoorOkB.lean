/- An oracle on its way through Forget (layer 6). -/
import Derived.Test.YtaneecmfgfkaaaaDoorOkA
import Derived.Lib.SlBuf
namespace Go.Proofs.YtaneecmfgfkaaaaDoor
open Go.RowKit Go.Deep Go.Maps
set_option linter.unusedVariables false
set_option linter.unusedSimpArgs false
theorem below_cells' {B g : Nat} {a w : World} (h : Below B a w) (hg : B ≤ g) (o : Nat) (vs : List Value) : Below B a (w.setCells g o vs) :=
  Go.Lib.below_setCells g hg vs o h
def strV (l : List (List UInt8)) : List Value := l.map fun x => Value.string ⟨x.toArray⟩
def digV (l : List (List UInt8)) : List Value := l.flatMap fun x => bv (sumL x)
theorem strV_len (l : List (List UInt8)) : (strV l).length = l.length := by unfold strV; rw [List.length_map]
theorem digV_len (l : List (List UInt8)) : (digV l).length = l.length * 32 := by
  unfold digV
  induction l with
  | nil => rfl
  | cons a l ih => rw [List.flatMap_cons, List.length_append, ih, dig_len, List.length_cons, Nat.add_mul]; omega
theorem strV_split (l1 l2 : List (List UInt8)) (s : List UInt8) : strV (l1 ++ s :: l2) = strV l1 ++ strV [s] ++ strV l2 := by unfold strV; simp
theorem strV_app (l1 l2 : List (List UInt8)) : strV (l1 ++ l2) = strV l1 ++ strV l2 := by unfold strV; simp
theorem digV_split (l1 l2 : List (List UInt8)) (s : List UInt8) : digV (l1 ++ s :: l2) = digV l1 ++ digV [s] ++ digV l2 := by unfold digV; simp
theorem digV_app (l1 l2 : List (List UInt8)) : digV (l1 ++ l2) = digV l1 ++ digV l2 := by unfold digV; simp
/-- The oracle on its way: the texts lt, the sums ls, the map D. -/
structure FgS (base : Nat) (w0 w : World) (g b gt gs tc sc : Nat) (lt ls : List (List UInt8)) (n : Nat) (D : DataW Unit) : Prop where
  hb : base ≤ g
  hbb : base ≤ b
  hbt : base ≤ gt
  hbs : base ≤ gs
  hg : w.heap[g]? = some (.cells #[.slice (some ⟨gt, 0, none⟩) lt.length tc, .slice (some ⟨gs, 0, none⟩) ls.length sc, .map (some b)] 70 (0, 0))
  ht : w.ownsRow base 9 1 (.slice (some ⟨gt, 0, none⟩) lt.length tc) lt.length (strV lt)
  hs : w.ownsRow base 34 32 (.slice (some ⟨gs, 0, none⟩) ls.length sc) ls.length (digV ls)
  hm : w.ownsMap Tryd.prog 9 (plainElem Tryd.prog 3) b n D
  kp : ∀ k o, w0.heap[k]? = some o → k ≠ g → k ≠ b → k ≠ gt → k ≠ gs → w.heap[k]? = some o
  bel : Below base w0 w
section
variable {base : Nat} {w0 w w' : World} {g b gt gs tc sc : Nat} {lt ls : List (List UInt8)} {n n' : Nat} {D D' : DataW Unit}
theorem FgS.apart (h : FgS base w0 w g b gt gs tc sc lt ls n D) : gt ≠ g ∧ gs ≠ g ∧ gt ≠ gs ∧ gt ≠ b ∧ gs ≠ b ∧ g ≠ b := by
  refine ⟨fun e => own_nostruct h.ht h.hg str_ne_or (by rw [e]; rfl), fun e => own_nostruct h.hs h.hg dig_ne_or (by rw [e]; rfl), fun e => ?_, fun e => own_nomap h.ht h.hm (by rw [e]; rfl), fun e => own_nomap h.hs h.hm (by rw [e]; rfl), map_block h.hm h.hg⟩
  rcases own_apart h.ht h.hs str_ne_dig with q | q
  · cases q
  · exact q (by rw [e]; rfl)
theorem FgS.lts (h : FgS base w0 w g b gt gs tc sc lt ls n D) : g < w.heap.size ∧ b < w.heap.size ∧ gt < w.heap.size ∧ gs < w.heap.size := ⟨(Array.getElem?_eq_some_iff.1 h.hg).1, h.hm.lt, (h.ht.lt gt rfl).2, (h.hs.lt gs rfl).2⟩
theorem FgS.drew (h : FgS base w0 w g b gt gs tc sc lt ls n D) : FgS base w0 w.drew g b gt gs tc sc lt ls n D := ⟨h.hb, h.hbb, h.hbt, h.hbs, h.hg, h.ht, h.hs, h.hm, h.kp, h.bel.drew⟩
theorem FgS.map (h : FgS base w0 w g b gt gs tc sc lt ls n D) (hm : w'.ownsMap Tryd.prog 9 (plainElem Tryd.prog 3) b n' D') (hG : w.grownBy w' (some b)) (hbw : base ≤ w.heap.size) : FgS base w0 w' g b gt gs tc sc lt ls n' D' := by
  obtain ⟨a1, a2, a3, a4, a5, a6⟩ := h.apart
  obtain ⟨l1, l2, l3, l4⟩ := h.lts
  refine ⟨h.hb, h.hbb, h.hbt, h.hbs, (hG.block g l1 (fun e => a6 (Option.some.inj e))).trans h.hg, own_grown h.ht hG (Or.inr (fun e => a4 (Option.some.inj e))), own_grown h.hs hG (Or.inr (fun e => a5 (Option.some.inj e))), hm, fun k o hk q1 q2 q3 q4 => ?_, h.bel.grown hG hbw (fun j e => by cases e; exact h.hbb)⟩
  have := h.kp k o hk q1 q2 q3 q4
  exact (hG.block k (Array.getElem?_eq_some_iff.1 this).1 (fun e => q2 (Option.some.inj e))).trans this
/-- The texts without one. -/
theorem FgS.cutT {l1 l2 : List (List UInt8)} {s : List UInt8} (h : FgS base w0 w g b gt gs tc sc (l1 ++ s :: l2) ls n D) : FgS base w0 ((w.setCells gt (0 + l1.length * 1) (strV l2)).setCell ⟨g, 0, none⟩ (.slice (some ⟨gt, 0, none⟩) (l1 ++ l2).length tc)) g b gt gs tc sc (l1 ++ l2) ls n D := by
  obtain ⟨a1, a2, a3, a4, a5, a6⟩ := h.apart
  have hlen : (l1 ++ s :: l2).length = l1.length + 1 + l2.length := by rw [List.length_append, List.length_cons]; omega
  have hlen2 : (l1 ++ l2).length = l1.length + l2.length := List.length_append
  have h1 := h.ht
  rw [hlen, strV_split] at h1
  have h2 := own_cut h1 (by rw [strV_len, Nat.mul_one]) (by rw [strV_len]; rfl) (by rw [strV_len, Nat.mul_one])
  have ne : ∀ k, k ≠ gt → (w.setCells gt (0 + l1.length * 1) (strV l2)).heap[k]? = w.heap[k]? := fun k hk => setCells_block gt _ _ w k hk
  have hg1 := (ne g (Ne.symm a1)).trans h.hg
  rw [← hlen2, ← strV_app] at h2
  have hS : (w.setCells gt (0 + l1.length * 1) (strV l2)).ownsRow base 34 32 (.slice (some ⟨gs, 0, none⟩) ls.length sc) ls.length (digV ls) := own_at_block h.hs (fun k e => by cases e; exact ne gs (Ne.symm a3))
  have hM := map_at_block h.hm (ne b (Ne.symm a4))
  refine ⟨h.hb, h.hbb, h.hbt, h.hbs, or_set hg1, ?_, ?_, map_at_block hM (Below.heap_setCell _ ⟨g, 0, none⟩ _ b (fun e => a6 e.symm)), fun k o hk q1 q2 q3 q4 => ?_, (below_cells' h.bel h.hbt _ _).setCell (p := ⟨g, 0, none⟩) h.hb _⟩
  · exact ownsRow_setCell_other h2 (a := ⟨g, 0, none⟩) (fun e => a1 (Option.some.inj e)) _
  · exact ownsRow_setCell_other hS (a := ⟨g, 0, none⟩) (fun e => a2 (Option.some.inj e)) _
  · exact ((Below.heap_setCell _ ⟨g, 0, none⟩ _ k q1).trans (ne k q3)).trans (h.kp k o hk q1 q2 q3 q4)
/-- The sums without one. -/
theorem FgS.cutS {l1 l2 : List (List UInt8)} {s : List UInt8} (h : FgS base w0 w g b gt gs tc sc lt (l1 ++ s :: l2) n D) : FgS base w0 ((w.setCells gs (0 + l1.length * 32) (digV l2)).setCell ⟨g, 1, none⟩ (.slice (some ⟨gs, 0, none⟩) (l1 ++ l2).length sc)) g b gt gs tc sc lt (l1 ++ l2) n D := by
  obtain ⟨a1, a2, a3, a4, a5, a6⟩ := h.apart
  have hlen : (l1 ++ s :: l2).length = l1.length + 1 + l2.length := by rw [List.length_append, List.length_cons]; omega
  have hlen2 : (l1 ++ l2).length = l1.length + l2.length := List.length_append
  have h1 := h.hs
  rw [hlen, digV_split] at h1
  have h2 := own_cut h1 (by rw [digV_len]) (by rw [digV_len]; rfl) (by rw [digV_len])
  have ne : ∀ k, k ≠ gs → (w.setCells gs (0 + l1.length * 32) (digV l2)).heap[k]? = w.heap[k]? := fun k hk => setCells_block gs _ _ w k hk
  have hg1 := (ne g (Ne.symm a2)).trans h.hg
  rw [← hlen2, ← digV_app] at h2
  have hS : (w.setCells gs (0 + l1.length * 32) (digV l2)).ownsRow base 9 1 (.slice (some ⟨gt, 0, none⟩) lt.length tc) lt.length (strV lt) := own_at_block h.ht (fun k e => by cases e; exact ne gt a3)
  have hM := map_at_block h.hm (ne b (Ne.symm a5))
  refine ⟨h.hb, h.hbb, h.hbt, h.hbs, or_set1 hg1, ?_, ?_, map_at_block hM (Below.heap_setCell _ ⟨g, 1, none⟩ _ b (fun e => a6 e.symm)), fun k o hk q1 q2 q3 q4 => ?_, (below_cells' h.bel h.hbs _ _).setCell (p := ⟨g, 1, none⟩) h.hb _⟩
  · exact ownsRow_setCell_other hS (a := ⟨g, 1, none⟩) (fun e => a1 (Option.some.inj e)) _
  · exact ownsRow_setCell_other h2 (a := ⟨g, 1, none⟩) (fun e => a2 (Option.some.inj e)) _
  · exact ((Below.heap_setCell _ ⟨g, 1, none⟩ _ k q1).trans (ne k q4)).trans (h.kp k o hk q1 q2 q3 q4)
theorem FgS.done {l : List (List UInt8)} (h : FgS base w0 w g b gt gs tc sc l l n D) (hx : Idx D l) (hz : Maps.size D ≤ l.length) (hnd : l.Nodup) : OrP base w g l (.slice (some ⟨gt, 0, none⟩) l.length tc) (.slice (some ⟨gs, 0, none⟩) l.length sc) b D :=
  ⟨h.hb, h.hg, h.ht, h.hs, own_tight h.hm hz, h.hbb, hx, hnd⟩
theorem FgS.of {l : List (List UInt8)} {tv sv : Value} (h : OrP base w g l tv sv b D) (h0 : 0 < l.length) (hbw : base ≤ w.heap.size) : ∃ gt gs tc sc, tv = .slice (some ⟨gt, 0, none⟩) l.length tc ∧ sv = .slice (some ⟨gs, 0, none⟩) l.length sc ∧ l.length ≤ tc ∧ l.length ≤ sc ∧ FgS base w w g b gt gs tc sc l l l.length D := by
  obtain ⟨gt, tc, rfl, ht1, ht2, _, _⟩ := own_rowG h.ht h0
  obtain ⟨gs, sc, rfl, hs1, hs2, _, _⟩ := own_rowG h.hs h0
  exact ⟨gt, gs, tc, sc, rfl, rfl, ht1, hs1, h.hb, h.hbb, ht2, hs2, h.hg, h.ht, h.hs, h.hm, fun k o hk _ _ _ _ => hk, (Below.refl _ _).mono hbw⟩
end
end Go.Proofs.YtaneecmfgfkaaaaDoor
