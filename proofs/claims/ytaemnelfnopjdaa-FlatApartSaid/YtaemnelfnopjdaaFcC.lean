/- The reference of flat: the row of chains that a call builds. -/
import Derived.Test.YtaemnelfnopjdaaFcB
import Derived.Test.YtaemnelfnopjdaaFbC
namespace Go.Proofs.Ytaemnelfnopjdaa
open Go.RowKit Go.Deep Go.Maps
set_option linter.unusedVariables false
set_option linter.unusedSimpArgs false
structure OutW (w : World) (B B1 : Nat) (vo : Value) (new : List RC) : Prop where
  row : w.ownsRow B1 62 1 vo new.length (new.map rcV)
  tx : ∀ c ∈ new, TxR w c.b c.L ∧ c.L.length ≤ c.cap ∧ c.L ≠ [] ∧ B ≤ c.b
  ne : ∀ c ∈ new, vo.ownBlock ≠ some c.b
theorem OutW.nil (w : World) (B B1 : Nat) : OutW w B B1 (.slice none 0 0) [] := ⟨World.ownsRow_nil _ _ _ _, fun c hc => by simp at hc, fun c hc => by simp at hc⟩
section
variable {w w' w4 w5 : World} {B B1 g : Nat} {vo v' : Value} {new : List RC} {c : RC}
theorem OutW.below (h : OutW w B B1 vo new) (k : Below w.heap.size w w') : OutW w' B B1 vo new :=
  ⟨own_at_block h.row (fun j e => k.block j (h.row.lt j e).2), fun c hc => ⟨(h.tx c hc).1.below k, (h.tx c hc).2⟩, h.ne⟩
theorem OutW.app (h : OutW w B B1 vo new) (hb : B1 ≤ w.heap.size) (hc : TxR w c.b c.L ∧ c.L.length ≤ c.cap ∧ c.L ≠ [] ∧ B ≤ c.b) (hn : vo.ownBlock ≠ some c.b) (hr : w'.ownsRow B1 62 1 v' (new.length + 1) (new.map rcV ++ [rcV c])) (hg : w.grownBy w' vo.ownBlock) (hv : v'.ownBlock = vo.ownBlock ∨ v'.ownBlock = some w.heap.size) : OutW w' B B1 v' (new ++ [c]) ∧ Below B1 w w' := by
  have hk := Kq.of_grownO hg hb (fun k e => (h.row.lt k e).1)
  have key : ∀ d : RC, TxR w d.b d.L ∧ d.L.length ≤ d.cap ∧ d.L ≠ [] ∧ B ≤ d.b → vo.ownBlock ≠ some d.b → (TxR w' d.b d.L ∧ d.L.length ≤ d.cap ∧ d.L ≠ [] ∧ B ≤ d.b) ∧ v'.ownBlock ≠ some d.b := fun d h1 h2 => by
    refine ⟨⟨h1.1.kq hk (fun hm => h2 (by simpa using hm)), h1.2⟩, fun e => ?_⟩
    rcases hv with hv | hv
    · rw [hv] at e; exact h2 e
    · rw [hv] at e
      have h3 := h1.1.1
      have := Option.some.inj e
      omega
  refine ⟨⟨by rw [List.length_append, List.map_append]; exact hr, fun d hd => ?_, fun d hd => ?_⟩, hk.below⟩
  · rcases List.mem_append.1 hd with hd | hd
    · exact (key d (h.tx d hd) (h.ne d hd)).1
    · rw [List.mem_singleton.1 hd]; exact (key c hc hn).1
  · rcases List.mem_append.1 hd with hd | hd
    · exact (key d (h.tx d hd) (h.ne d hd)).2
    · rw [List.mem_singleton.1 hd]; exact (key c hc hn).2
/-- A reference's chains replaced. -/
theorem RfW.set {n gc cap : Nat} {cs : List RC} (hf : RfW w B g n cs gc cap) (h : OutW w B B1 vo new) (hB : B ≤ B1) (hne : new ≠ []) (hgn : ∀ c ∈ new, c.b ≠ g) : ∃ gc' cap', vo = .slice (some ⟨gc', 0, none⟩) new.length cap' ∧ RfW (w.setCell ⟨g, 1, none⟩ vo) B g n new gc' cap' ∧ Kq B [g] w (w.setCell ⟨g, 1, none⟩ vo) ∧ B1 ≤ gc' := by
  have hl : 0 < new.length := List.length_pos_iff.2 hne
  obtain ⟨gc', cap', e, h1, h2, h3, h4⟩ := own_rowG h.row hl
  have hk : Kq B [g] w (w.setCell ⟨g, 1, none⟩ vo) := (Kq.refl B [g] w).setCell 1 vo hf.bg (by simp)
  have hcg : gc' ≠ g := fun e1 => by
    have := own_nostruct h.row hf.hg (by decide)
    rw [e, e1] at this
    exact this rfl
  refine ⟨gc', cap', e, ⟨?_, ?_, h1, fun i hi => ?_, fun c hc => ?_, hf.bg, by omega⟩, hk, h2⟩
  · have := heap_setCell_same w g 1 _ _ vo hf.hg
    rw [e] at this ⊢
    exact this
  · exact Nat.lt_of_lt_of_le h3 hk.below.size
  · have := h4 i (rcV new[i]) (by rw [List.getElem?_map, List.getElem?_eq_getElem hi]; rfl)
    rw [Nat.zero_add] at this
    exact hk.cell (by simpa using hcg) this
  · exact ⟨(h.tx c hc).1.kq hk (by simpa using hgn c hc), (h.tx c hc).2⟩
end
end Go.Proofs.Ytaemnelfnopjdaa
