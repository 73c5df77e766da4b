/- A region that draws its order, walked in ONE order: what only reads first; a condition S on the world is asked only where something is still to be read. Over any program. -/
import Derived.OrdersHeld
import Derived.Deep.RegionHeld3
import Derived.KernelRfl
namespace Go.Proofs.Ytaemnelfnopjdaa
open Go
set_option linter.unusedVariables false
section
variable {P : Program} {ops : Array Oper} {Q : Exit → Act → World → Prop} {md : Region.Mode} {S : World → Prop}

/-- Operation j comes behind operation c in every order. -/
def preB (md : Region.Mode) (ops : Array Oper) : Nat → Nat → Nat → Bool
  | 0, _, _ => false
  | f + 1, j, c => match ops[j]? with
    | none => false
    | some o => o.after.any fun e => Region.binds md e && (e.on == c || preB md ops f e.on c)
def Closed (md : Region.Mode) (ops : Array Oper) (listed : Array Bool) : Prop :=
  ∀ j oj, ops[j]? = some oj → listed.getD j false = true → ∀ e ∈ oj.after, Region.binds md e = true → listed.getD e.on false = true
theorem Closed.set {listed : Array Bool} {i : Nat} (h : Closed md ops listed) (hi : i ∈ Region.ready md ops listed) : Closed md ops (listed.setIfInBounds i true) := by
  obtain ⟨_, oi, hoi, hall⟩ := mem_ready.1 hi
  intro j oj hj hl e he hb
  by_cases hij : i = j
  · subst hij
    have : oj = oi := Option.some.inj (hj.symm.trans hoi)
    subst this
    exact getD_set_true (hall e he hb)
  · rw [getD_set_ne false hij] at hl
    exact getD_set_true (h j oj hj hl e he hb)
theorem pre_listed {listed : Array Bool} (h : Closed md ops listed) : ∀ (f j c : Nat), (∀ o, ops[j]? = some o → ∀ e ∈ o.after, Region.binds md e = true → listed.getD e.on false = true) → preB md ops f j c = true → listed.getD c false = true
  | 0, _, _, _, hp => by simp [preB] at hp
  | f + 1, j, c, hj, hp => by
    unfold preB at hp
    split at hp
    · cases hp
    · rename_i o ho
      obtain ⟨e, he, hb⟩ := Array.any_eq_true'.1 hp
      simp only [Bool.and_eq_true, Bool.or_eq_true, beq_iff_eq] at hb
      have hl := hj o ho e he hb.1
      rcases hb.2 with h1 | h1
      · rw [← h1]; exact hl
      · exact pre_listed h f e.on c (fun o' ho' e' he' hb' => h _ o' ho' hl e' he' hb') h1
/-- Whatever order is picked, S being shown behind what is marked. -/
def wpAnyG (P : Program) (md : Region.Mode) (ops : Array Oper) (Q : Exit → Act → World → Prop) (S : World → Prop) (nd : Nat → Bool) : Nat → Array Bool → Act → World → Prop
  | 0, listed, a, w => Region.ready md ops listed = [] ∧ Q .normal a w
  | fuel + 1, listed, a, w =>
    (Region.ready md ops listed = [] → Q .normal a w) ∧
    ∀ i ∈ Region.ready md ops listed, wpOp P ops Q i (fun a' w' => (nd i = true → S w') ∧ wpAnyG P md ops Q S nd fuel (listed.setIfInBounds i true) a' w') a w
theorem wpAny_of_G {nd : Nat → Bool} : ∀ (fuel : Nat) (listed : Array Bool) (a : Act) (w : World), wpAnyG P md ops Q S nd fuel listed a w → wpAny P md ops Q fuel listed a w
  | 0, _, _, _, h => h
  | fuel + 1, _, _, _, h => ⟨h.1, fun i hi => wpOp_mono (fun a' w' h' => wpAny_of_G fuel _ a' w' h'.2) (h.2 i hi)⟩
theorem wpAnyG_first {nd : Nat → Bool} {N i : Nat} {oi : Oper} {v : Value} (hi : ops[i]? = some oi) (hsel : ∀ (j : Nat) (o : Oper) cs b, ops[j]? = some o → o.op ≠ .select cs b)
    (hQ : ∀ c a w, Q (.panic c) (a.put oi.dst v) w → Q (.panic c) a w) (hnd : ∀ j, nd j = false → j ≠ i → preB md ops N j i = true) :
    ∀ (fuel : Nat) (listed : Array Bool) (a : Act) (w : World), Closed md ops listed →
      (∀ j oj, ops[j]? = some oj → j ≠ i → listed.getD j true = false → (∀ e ∈ oj.after, Region.binds md e = true → e.on ≠ i) → oi.apart ops oj = true) →
      i ∈ Region.ready md ops listed → YieldsIf P ops S oi v a → S w →
      wpAnyG P md ops Q S nd fuel (listed.setIfInBounds i true) (a.put oi.dst v) w → wpAnyG P md ops Q S nd (fuel + 1) listed a w := by
  intro fuel
  induction fuel with
  | zero =>
    intro listed a w _ _ hr hy hS H
    refine ⟨fun h => (by rw [h] at hr; cases hr), fun j hj => ?_⟩
    by_cases hji : j = i
    · subst hji; exact hy.wpOp hi hS ⟨fun _ => hS, H⟩
    · have := ready_mono hj hji
      rw [H.1] at this
      cases this
  | succ fuel ih =>
    intro listed a w hcl hfree hr hy hS H
    refine ⟨fun h => (by rw [h] at hr; cases hr), fun j hj => ?_⟩
    by_cases hji : j = i
    · subst hji; exact hy.wpOp hi hS ⟨fun _ => hS, H⟩
    · have h1 := H.2 j (ready_mono hj hji)
      obtain ⟨hjun, oj, hoj, hall⟩ := mem_ready.1 hj
      have hun := (mem_ready.1 hr).1
      have hun' : listed.getD i false = false := by
        rcases Nat.lt_or_ge i listed.size with h' | h'
        · simp [h'] at hun ⊢; exact hun
        · simp [Array.getElem?_eq_none h']
      have hnot : ∀ e ∈ oj.after, Region.binds md e = true → e.on ≠ i := fun e he hb heq => by
        have h1 := hall e he hb
        rw [heq, hun'] at h1
        cases h1
      have hndj : nd j = true := by
        cases hq : nd j with
        | true => rfl
        | false =>
          have := pre_listed hcl N j i (fun o ho e he hb => by
            have : o = oj := Option.some.inj (ho.symm.trans hoj)
            subst this
            exact hall e he hb) (hnd j hq hji)
          rw [hun'] at this
          cases this
      have h2 := wpOp_putIf hoj (hfree j oj hoj hji hjun hnot) (fun cs b => hsel i oi cs b hi) (fun cs b => hsel j oj cs b hoj) hQ hy h1
      have hfree' : ∀ k ok, ops[k]? = some ok → k ≠ i → (listed.setIfInBounds j true).getD k true = false →
          (∀ e ∈ ok.after, Region.binds md e = true → e.on ≠ i) → oi.apart ops ok = true := fun k ok hk hki hun hno => by
        refine hfree k ok hk hki ?_ hno
        by_cases hjk : j = k
        · subst hjk; exact hjun
        · rw [getD_set_ne true hjk] at hun; exact hun
      refine wpOp_mono (fun a' w' h3 => ⟨h3.2.1, ih (listed.setIfInBounds j true) a' w' (hcl.set hj) hfree' (ready_mono hr (Ne.symm hji)) h3.1 (h3.2.1 hndj) ?_⟩) h2
      rw [Array.setIfInBounds_comm _ _ hji]
      exact h3.2.2
/-- Must S be shown behind operation j? -/
def ndB (md : Region.Mode) (ops : Array Oper) (order : List (Nat × Bool)) (j : Nat) : Bool := !(order.all fun c => !c.2 || c.1 == j || preB md ops ops.size j c.1)
/-- The order is one that serves. -/
def linOk (md : Region.Mode) (ops : Array Oper) (nd : Nat → Bool) : List (Nat × Bool) → Array Bool → Bool
  | [], listed => (Region.ready md ops listed).isEmpty
  | (i, c) :: r, listed => (if c then (Region.ready md ops listed).contains i && Region.free md ops listed i else decide (Region.ready md ops listed = [i]) && (nd i || r.all fun x => !x.2)) && linOk md ops nd r (listed.setIfInBounds i true)
/-- The walk in that order. -/
def wpL (P : Program) (ops : Array Oper) (Q : Exit → Act → World → Prop) (S : World → Prop) (nd : Nat → Bool) : List (Nat × Bool) → Act → World → Prop
  | [], a, w => Q .normal a w
  | (i, c) :: r, a, w => if c then ∃ o v, ops[i]? = some o ∧ YieldsIf P ops S o v a ∧ wpL P ops Q S nd r (a.put o.dst v) w
    else wpOp P ops Q i (fun a' w' => (nd i = true → S w') ∧ wpL P ops Q S nd r a' w') a w
theorem wpL_sound {nd : Nat → Bool} {N : Nat} (hsel : Region.noSelect ops = true) (hQ : ∀ d v c a w, Q (.panic c) (Act.put a d v) w → Q (.panic c) a w) :
    ∀ (l : List (Nat × Bool)) (listed : Array Bool) (a : Act) (w : World), (∀ i, (i, true) ∈ l → ∀ j, nd j = false → j ≠ i → preB md ops N j i = true) → Closed md ops listed → linOk md ops nd l listed = true → ((l.all fun x => !x.2) = false → S w) →
      wpL P ops Q S nd l a w → wpAnyG P md ops Q S nd l.length listed a w
  | [], listed, a, w, _, _, hB, _, h => ⟨by simpa [linOk] using hB, h⟩
  | (i, true) :: r, listed, a, w, hnd, hcl, hB, hS, h => by
    simp only [linOk, if_true, Bool.and_eq_true] at hB
    obtain ⟨⟨hr, hf⟩, hB'⟩ := hB
    have hr' : i ∈ Region.ready md ops listed := by simpa using hr
    obtain ⟨o, v, ho, hy, hK⟩ : ∃ o v, ops[i]? = some o ∧ YieldsIf P ops S o v a ∧ wpL P ops Q S nd r (a.put o.dst v) w := h
    have hSw := hS (by simp)
    exact wpAnyG_first ho (Region.noSelect_spec hsel) (hQ _ _) (hnd i (by simp)) r.length listed a w hcl (Region.free_spec ho hf) hr' hy hSw
      (wpL_sound hsel hQ r _ _ _ (fun k hk => hnd k (by simp [hk])) (hcl.set hr') hB' (fun _ => hSw) hK)
  | (i, false) :: r, listed, a, w, hnd, hcl, hB, hS, h => by
    simp only [linOk, Bool.false_eq_true, if_false, Bool.and_eq_true, decide_eq_true_eq] at hB
    obtain ⟨⟨hr, hn⟩, hB'⟩ := hB
    have hr' : i ∈ Region.ready md ops listed := by rw [hr]; simp
    have h' : wpOp P ops Q i (fun a' w' => (nd i = true → S w') ∧ wpL P ops Q S nd r a' w') a w := h
    refine ⟨fun h0 => (by rw [h0] at hr; cases hr), fun j hj => ?_⟩
    rw [hr] at hj
    have hji : j = i := by simpa using hj
    subst hji
    refine wpOp_mono (fun a' w' h3 => ⟨h3.1, wpL_sound hsel hQ r _ _ _ (fun k hk => hnd k (by simp [hk])) (hcl.set hr') hB' (fun hx => h3.1 ?_) h3.2⟩) h'
    simp only [Bool.or_eq_true] at hn
    rcases hn with hn | hn
    · exact hn
    · rw [hn] at hx; cases hx
/-- **A region that draws, walked in one order.** -/
theorem wp_region_lin {id : Nat} {a : Act} {w : World} (S : World → Prop) (order : List (Nat × Bool)) (hm : P.follows .mixedOrders = true) (hsel : Region.noSelect ops = true)
    (hlen : order.length = ops.size) (hB : linOk .any ops (ndB .any ops order) order (Array.replicate ops.size false) = true) (hS : S w.drew)
    (h : S w.drew → wpL P ops (NoPanic Q) S (ndB .any ops order) order a w.drew) : (Code.region id ops true).wp P Q a w := by
  refine wp_region_noPanic (wp_region_any hm (wpAny_of_G (S := S) (nd := ndB .any ops order) _ _ _ _ ?_))
  rw [← hlen]
  refine wpL_sound (N := ops.size) hsel (fun _ _ _ _ _ h => h) order _ a _ (fun i hi j hj hji => ?_) (fun j oj _ hl => (by rw [hlen, getD_replicate_false'] at hl; cases hl)) (by rw [hlen]; exact hB) (fun _ => hS) (h hS)
  unfold ndB at hj
  have h1 : (order.all fun c => !c.2 || c.1 == j || preB .any ops ops.size j c.1) = true := by simpa using hj
  have h2 := List.all_eq_true.1 h1 (i, true) hi
  simp only [Bool.not_true, Bool.false_or, Bool.or_eq_true, beq_iff_eq] at h2
  rcases h2 with h2 | h2
  · exact absurd h2.symm hji
  · exact h2
where
  getD_replicate_false' {m j : Nat} : (Array.replicate m false).getD j false = false := by
    rcases Nat.lt_or_ge j m with h | h
    · simp [h]
    · simp [h]
theorem wpL_calm {nd : Nat → Bool} {i : Nat} {o : Oper} {v : Value} {r : List (Nat × Bool)} {a : Act} {w : World} (ho : ops[i]? = some o) (hy : YieldsIf P ops S o v a) (h : wpL P ops Q S nd r (a.put o.dst v) w) : wpL P ops Q S nd ((i, true) :: r) a w := ⟨o, v, ho, hy, h⟩
theorem wpL_loud {nd : Nat → Bool} {i : Nat} {o : Oper} {r : List (Nat × Bool)} {a : Act} {w : World} (ho : ops[i]? = some o)
    (h : ∀ K' : Act → World → Prop, Shut (∀ a w, (nd i = true → S w) → wpL P ops Q S nd r a w → K' a w) → if Region.wanted o (yielded ops a.tmps) = true then Oper.wp P o a w K' Q else K' (a.put o.dst undef) w) : wpL P ops Q S nd ((i, false) :: r) a w := by
  unfold wpL
  rw [if_neg (by simp)]
  exact wpOp_step ho (fun K' hK => h K' (fun a w h1 h2 => hK a w ⟨h1, h2⟩))
theorem wpL_loud1 {nd : Nat → Bool} {i : Nat} {o : Oper} {r : List (Nat × Bool)} {a : Act} {w : World} (ho : ops[i]? = some o)
    (h : ∀ K' : Act → World → Prop, Shut (∀ a w, S w → (S w → wpL P ops Q S nd r a w) → K' a w) → if Region.wanted o (yielded ops a.tmps) = true then Oper.wp P o a w K' Q else K' (a.put o.dst undef) w) : wpL P ops Q S nd ((i, false) :: r) a w := by
  unfold wpL
  rw [if_neg (by simp)]
  exact wpOp_step ho (fun K' hK => h K' (fun a w h1 h2 => hK a w ⟨fun _ => h1, h2 h1⟩))
theorem wpL_loud0 {nd : Nat → Bool} {i : Nat} {o : Oper} {r : List (Nat × Bool)} {a : Act} {w : World} (ho : ops[i]? = some o) (hn : nd i = false)
    (h : ∀ K' : Act → World → Prop, Shut (∀ a w, wpL P ops Q S nd r a w → K' a w) → if Region.wanted o (yielded ops a.tmps) = true then Oper.wp P o a w K' Q else K' (a.put o.dst undef) w) : wpL P ops Q S nd ((i, false) :: r) a w := by
  unfold wpL
  rw [if_neg (by simp)]
  exact wpOp_step ho (fun K' hK => h K' (fun a w h2 => hK a w ⟨fun h => (by rw [hn] at h; cases h), h2⟩))
theorem wpL_nil {nd : Nat → Bool} {a : Act} {w : World} (h : Q .normal a w) : wpL P ops Q S nd [] a w := h
end
end Go.Proofs.Ytaemnelfnopjdaa
