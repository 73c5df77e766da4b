/- A region that draws, walked in one order in two parts: at the cut the condition on the world is chosen anew. Over any program. -/
import Derived.Test.YtaemnelfnopjdaaLinB
namespace Go.Proofs.Ytaemnelfnopjdaa
open Go
set_option linter.unusedVariables false
section
variable {P : Program} {ops : Array Oper} {Q : Exit → Act → World → Prop} {md : Region.Mode} {S : World → Prop} {E : Act → World → Prop}
/-- The walk of a part, and what is asked at its end. -/
def wpM (P : Program) (ops : Array Oper) (Q : Exit → Act → World → Prop) (S : World → Prop) (E : Act → World → Prop) : List (Nat × Bool) → Act → World → Prop
  | [], a, w => E a w
  | (i, c) :: r, a, w => if c then ∃ o v, ops[i]? = some o ∧ YieldsIf P ops S o v a ∧ wpM P ops Q S E r (a.put o.dst v) w
    else wpOp P ops Q i (fun a' w' => S w' ∧ wpM P ops Q S E r a' w') a w
def listedM : List (Nat × Bool) → Array Bool → Array Bool
  | [], l => l
  | c :: r, l => listedM r (l.setIfInBounds c.1 true)
theorem listedM_size : ∀ (l : List (Nat × Bool)) (a : Array Bool), (listedM l a).size = a.size
  | [], _ => rfl
  | c :: r, a => by
    show (listedM r (a.setIfInBounds c.1 true)).size = a.size
    rw [listedM_size r]; simp
def linOkM (md : Region.Mode) (ops : Array Oper) : List (Nat × Bool) → Array Bool → Bool
  | [], _ => true
  | (i, c) :: r, listed => (if c then (Region.ready md ops listed).contains i && Region.free md ops listed i else decide (Region.ready md ops listed = [i])) && linOkM md ops r (listed.setIfInBounds i true)
theorem wpM_sound {nd : Nat → Bool} {N fuel : Nat} (hsel : Region.noSelect ops = true) (hQ : ∀ d v c a w, Q (.panic c) (Act.put a d v) w → Q (.panic c) a w) :
    ∀ (l : List (Nat × Bool)) (listed : Array Bool) (a : Act) (w : World), (∀ i, (i, true) ∈ l → ∀ j, nd j = false → j ≠ i → preB md ops N j i = true) → Closed md ops listed → linOkM md ops l listed = true → S w →
      wpM P ops Q S E l a w → (∀ a w, Closed md ops (listedM l listed) → E a w → wpAnyG P md ops Q S nd fuel (listedM l listed) a w) → wpAnyG P md ops Q S nd (l.length + fuel) listed a w
  | [], listed, a, w, _, hcl, _, _, h, hE => by
    rw [show ([] : List (Nat × Bool)).length + fuel = fuel by simp]
    exact hE a w hcl h
  | (i, true) :: r, listed, a, w, hnd, hcl, hB, hS, h, hE => by
    simp only [linOkM, if_true, Bool.and_eq_true] at hB
    obtain ⟨⟨hr, hf⟩, hB'⟩ := hB
    have hr' : i ∈ Region.ready md ops listed := by simpa using hr
    obtain ⟨o, v, ho, hy, hK⟩ : ∃ o v, ops[i]? = some o ∧ YieldsIf P ops S o v a ∧ wpM P ops Q S E r (a.put o.dst v) w := h
    rw [show ((i, true) :: r).length + fuel = (r.length + fuel) + 1 by rw [List.length_cons]; omega]
    exact wpAnyG_first ho (Region.noSelect_spec hsel) (hQ _ _) (hnd i (by simp)) (r.length + fuel) listed a w hcl (Region.free_spec ho hf) hr' hy hS
      (wpM_sound hsel hQ r _ _ _ (fun k hk => hnd k (by simp [hk])) (hcl.set hr') hB' hS hK hE)
  | (i, false) :: r, listed, a, w, hnd, hcl, hB, hS, h, hE => by
    simp only [linOkM, Bool.false_eq_true, if_false, Bool.and_eq_true, decide_eq_true_eq] at hB
    obtain ⟨hr, hB'⟩ := hB
    have hr' : i ∈ Region.ready md ops listed := by rw [hr]; simp
    have h' : wpOp P ops Q i (fun a' w' => S w' ∧ wpM P ops Q S E r a' w') a w := h
    rw [show ((i, false) :: r).length + fuel = (r.length + fuel) + 1 by rw [List.length_cons]; omega]
    refine ⟨fun h0 => (by rw [h0] at hr; cases hr), fun j hj => ?_⟩
    rw [hr] at hj
    have hji : j = i := by simpa using hj
    subst hji
    exact wpOp_mono (fun a' w' h3 => ⟨fun _ => h3.1, wpM_sound hsel hQ r _ _ _ (fun k hk => hnd k (by simp [hk])) (hcl.set hr') hB' h3.1 h3.2 hE⟩) h'
theorem wpAnyG_of_any {nd : Nat → Bool} : ∀ (fuel : Nat) (listed : Array Bool) (a : Act) (w : World), (∀ j, listed.getD j true = false → nd j = false) → wpAny P md ops Q fuel listed a w → wpAnyG P md ops Q S nd fuel listed a w
  | 0, _, _, _, _, h => h
  | fuel + 1, listed, _, _, hn, h => ⟨h.1, fun i hi => wpOp_mono (fun a' w' h' => ⟨fun hi1 => (by
      rw [hn i (mem_ready.1 hi).1] at hi1; cases hi1), wpAnyG_of_any fuel _ a' w' (fun j hj => hn j (by
        by_cases e : i = j
        · subst e; exact (mem_ready.1 hi).1
        · rwa [getD_set_ne true e] at hj)) h'⟩) (h.2 i hi)⟩
/-- **A region that draws, walked in one order in two parts.** -/
theorem wp_region_lin2 {id : Nat} {a : Act} {w : World} (S : World → Prop) (o1 o2 : List (Nat × Bool)) (hm : P.follows .mixedOrders = true) (hsel : Region.noSelect ops = true)
    (hlen : o1.length + o2.length = ops.size) (hB1 : linOkM .any ops o1 (Array.replicate ops.size false) = true) (hB2 : linOk .any ops (fun _ => true) o2 (listedM o1 (Array.replicate ops.size false)) = true)
    (hC : ((List.range ops.size).all fun j => (listedM o1 (Array.replicate ops.size false)).getD j true || o1.all fun c => !c.2 || preB .any ops ops.size j c.1) = true) (hS : S w.drew)
    (h : S w.drew → wpM P ops (NoPanic Q) S (fun a w => ∃ S2 : World → Prop, S2 w ∧ wpL P ops (NoPanic Q) S2 (fun _ => true) o2 a w) o1 a w.drew) : (Code.region id ops true).wp P Q a w := by
  refine wp_region_noPanic (wp_region_any hm (wpAny_of_G (S := S) (nd := fun j => (listedM o1 (Array.replicate ops.size false)).getD j true) _ _ _ _ ?_))
  have key : wpAnyG P .any ops (NoPanic Q) S (fun j => (listedM o1 (Array.replicate ops.size false)).getD j true) (o1.length + o2.length) (Array.replicate ops.size false) a w.drew := by
    refine wpM_sound (N := ops.size) hsel (fun _ _ _ _ _ h => h) o1 _ a _ (fun i hi j hj hji => ?_) (fun j oj _ hl => (by rw [replicate_false_getD] at hl; cases hl)) hB1 hS (h hS) (fun a w hcl ⟨S2, hS2, h2⟩ => ?_)
    · have hjs : j < ops.size := by
        rcases Nat.lt_or_ge j ops.size with h | h
        · exact h
        · have hj : (listedM o1 (Array.replicate ops.size false)).getD j true = false := hj
          rw [Array.getD_eq_getD_getElem?, Array.getElem?_eq_none (by rw [listedM_size]; simpa using h)] at hj
          cases hj
      have h1 := List.all_eq_true.1 hC j (List.mem_range.2 hjs)
      have hj : (listedM o1 (Array.replicate ops.size false)).getD j true = false := hj
      rw [hj, Bool.false_or] at h1
      have h2 := List.all_eq_true.1 h1 (i, true) hi
      simpa using h2
    · exact wpAnyG_of_any _ _ _ _ (fun j hj => hj) (wpAny_of_G (S := S2) (nd := fun _ => true) _ _ _ _ (wpL_sound (N := ops.size) hsel (fun _ _ _ _ _ h => h) o2 _ a w (fun i hi j hj hji => by cases hj) hcl hB2 (fun _ => hS2) h2))
  rw [hlen] at key
  exact key
theorem wpM_calm {i : Nat} {o : Oper} {v : Value} {r : List (Nat × Bool)} {a : Act} {w : World} (ho : ops[i]? = some o) (hy : YieldsIf P ops S o v a) (h : wpM P ops Q S E r (a.put o.dst v) w) : wpM P ops Q S E ((i, true) :: r) a w := ⟨o, v, ho, hy, h⟩
theorem wpM_loud1 {i : Nat} {o : Oper} {r : List (Nat × Bool)} {a : Act} {w : World} (ho : ops[i]? = some o)
    (h : ∀ K' : Act → World → Prop, Shut (∀ a w, S w → (S w → wpM P ops Q S E r a w) → K' a w) → if Region.wanted o (yielded ops a.tmps) = true then Oper.wp P o a w K' Q else K' (a.put o.dst undef) w) : wpM P ops Q S E ((i, false) :: r) a w := by
  unfold wpM
  rw [if_neg (by simp)]
  exact wpOp_step ho (fun K' hK => h K' (fun a w h1 h2 => hK a w ⟨h1, h2 h1⟩))
theorem wpM_cut {o2 : List (Nat × Bool)} {a : Act} {w : World} (S2 : World → Prop) (hS : S2 w) (h : S2 w → wpL P ops Q S2 (fun _ => true) o2 a w) : wpM P ops Q S (fun a w => ∃ S2 : World → Prop, S2 w ∧ wpL P ops Q S2 (fun _ => true) o2 a w) [] a w := ⟨S2, hS, h hS⟩
end
end Go.Proofs.Ytaemnelfnopjdaa
