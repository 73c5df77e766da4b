/- Rows of things on levels, linked by their numbers: plain lemmas (over any program). -/
import Derived.WalkKit
namespace Go.Proofs.Ytaemnelfnopjdaa
set_option linter.unusedVariables false
set_option linter.unusedSimpArgs false
/-- A function, one place set. -/
def su (F : Nat → Int) (j : Nat) (v : Int) : Nat → Int := fun k => if k = j then v else F k
theorem su_self (F : Nat → Int) (j : Nat) (v : Int) : su F j v j = v := if_pos rfl
theorem su_ne (F : Nat → Int) {j k : Nat} (v : Int) (h : k ≠ j) : su F j v k = F k := if_neg h
/-- The first of a list, or q. -/
def hdO : List Nat → Int → Int
  | [], q => q
  | y :: _, _ => (y : Int)
/-- The last of a list, or p. -/
def lsO : List Nat → Int → Int
  | [], p => p
  | x :: xs, _ => lsO xs (x : Int)
/-- The things of L lie on level l, one behind the other, p ahead of the first one, q behind the last one. -/
def seg (F : Nat → Int) (l : Nat) : Int → List Nat → Int → Prop
  | _, [], _ => True
  | p, x :: xs, q => (F (1 + x) = (l : Int) ∧ F (17 + x) = p ∧ F (33 + x) = hdO xs q) ∧ seg F l (x : Int) xs q
theorem hdO_append (A B : List Nat) (q : Int) : hdO (A ++ B) q = hdO A (hdO B q) := by cases A <;> rfl
theorem lsO_append (A B : List Nat) (p : Int) : lsO (A ++ B) p = lsO B (lsO A p) := by
  induction A generalizing p with
  | nil => rfl
  | cons x xs ih => exact ih _
theorem seg_append (F : Nat → Int) (l : Nat) (A B : List Nat) (p q : Int) : seg F l p (A ++ B) q ↔ seg F l p A (hdO B q) ∧ seg F l (lsO A p) B q := by
  induction A generalizing p with
  | nil => simp [seg, lsO]
  | cons x xs ih =>
    show (_ ∧ seg F l (x : Int) (xs ++ B) q) ↔ (_ ∧ seg F l (x : Int) xs (hdO B q)) ∧ _
    rw [ih, show hdO (xs.append B) q = hdO xs (hdO B q) from hdO_append xs B q, show lsO (x :: xs) p = lsO xs (x : Int) from rfl]
    constructor
    · rintro ⟨h1, h2, h3⟩; exact ⟨⟨h1, h2⟩, h3⟩
    · rintro ⟨⟨h1, h2⟩, h3⟩; exact ⟨h1, h2, h3⟩
/-- What changes elsewhere does no harm. -/
theorem seg_same {F G : Nat → Int} {l : Nat} {p q : Int} {L : List Nat} (h : seg F l p L q) (e : ∀ x ∈ L, G (1 + x) = F (1 + x) ∧ G (17 + x) = F (17 + x) ∧ G (33 + x) = F (33 + x)) : seg G l p L q := by
  induction L generalizing p with
  | nil => trivial
  | cons x xs ih =>
    obtain ⟨⟨h1, h2, h3⟩, h4⟩ := h
    obtain ⟨e1, e2, e3⟩ := e x (by simp)
    exact ⟨⟨e1.trans h1, e2.trans h2, e3.trans h3⟩, ih h4 fun y hy => e y (by simp [hy])⟩
theorem seg_level {F : Nat → Int} {l : Nat} {p q : Int} {L : List Nat} (h : seg F l p L q) : ∀ x ∈ L, F (1 + x) = (l : Int) := by
  induction L generalizing p with
  | nil => intro x hx; cases hx
  | cons y ys ih =>
    intro x hx
    rcases List.mem_cons.1 hx with rfl | hx
    · exact h.1.1
    · exact ih h.2 x hx
/-- A level's row. -/
structure Row (F : Nat → Int) (l : Nat) (L : List Nat) : Prop where
  sg : seg F l (-1) L (-1)
  fi : F (49 + l) = hdO L (-1)
  la : F (53 + l) = lsO L (-1)
  nd : L.Nodup
/-- A queue of n things with the rows R. -/
structure QOk (F : Nat → Int) (n : Nat) (R : Nat → List Nat) : Prop where
  n0 : F 0 = (n : Int)
  n1 : 1 ≤ n
  n16 : n ≤ 16
  row : ∀ l, l < 4 → Row F l (R l)
  lt : ∀ l, l < 4 → ∀ x ∈ R l, x < n
  no : ∀ x, x < 16 → (∀ l, l < 4 → x ∉ R l) → F (1 + x) = -1
theorem QOk.level {F : Nat → Int} {n : Nat} {R : Nat → List Nat} (h : QOk F n R) {l x : Nat} (hl : l < 4) (hx : x ∈ R l) : F (1 + x) = (l : Int) := seg_level (h.row l hl).sg x hx
theorem QOk.one {F : Nat → Int} {n : Nat} {R : Nat → List Nat} (h : QOk F n R) {l m x : Nat} (hl : l < 4) (hm : m < 4) (hx : x ∈ R l) (hy : x ∈ R m) : l = m := by
  have h1 := h.level hl hx
  have h2 := h.level hm hy
  omega
/-- A thing is where its level says. -/
theorem QOk.on {F : Nat → Int} {n : Nat} {R : Nat → List Nat} (h : QOk F n R) {x : Nat} (hx : x < 16) : (F (1 + x) = -1 ∧ ∀ l, l < 4 → x ∉ R l) ∨ ∃ l : Nat, l < 4 ∧ F (1 + x) = (l : Int) ∧ x ∈ R l := by
  by_cases hh : ∃ l, l < 4 ∧ x ∈ R l
  · obtain ⟨l, hl, hm⟩ := hh
    exact Or.inr ⟨l, hl, h.level hl hm, hm⟩
  · have hn : ∀ l, l < 4 → x ∉ R l := fun l hl hm => hh ⟨l, hl, hm⟩
    exact Or.inl ⟨h.no x hx hn, hn⟩
def setR (R : Nat → List Nat) (l : Nat) (L : List Nat) : Nat → List Nat := fun k => if k = l then L else R k
theorem lsO_mem {L : List Nat} {p : Int} (h : L ≠ []) : ∃ y ∈ L, lsO L p = (y : Int) := by
  induction L generalizing p with
  | nil => exact absurd rfl h
  | cons x xs ih =>
    by_cases hx : xs = []
    · subst hx; exact ⟨x, by simp, rfl⟩
    · obtain ⟨y, hy, e⟩ := ih (p := (x : Int)) hx
      exact ⟨y, by simp [hy], e⟩
theorem lsO_snoc (A : List Nat) (y : Nat) (p : Int) : lsO (A ++ [y]) p = (y : Int) := by rw [lsO_append]; rfl
/-- The memory behind append. -/
def apF (F : Nat → Int) (i l : Nat) : Nat → Int :=
  su (if F (53 + l) = -1 then su (su (su (su F (1 + i) (l : Int)) (17 + i) (F (53 + l))) (33 + i) (-1)) (49 + l) (i : Int) else su (su (su (su F (1 + i) (l : Int)) (17 + i) (F (53 + l))) (33 + i) (-1)) (33 + (F (53 + l)).toNat) (i : Int)) (53 + l) (i : Int)
theorem apF_at (F : Nat → Int) (i l k : Nat) (h1 : k ≠ 1 + i) (h2 : k ≠ 17 + i) (h3 : k ≠ 33 + i) (h4 : k ≠ 53 + l) (h5 : k ≠ 49 + l ∨ F (53 + l) ≠ -1) (h6 : k ≠ 33 + (F (53 + l)).toNat ∨ F (53 + l) = -1) : apF F i l k = F k := by
  unfold apF
  rw [su_ne _ _ h4]
  split
  · rename_i hh
    rw [su_ne _ _ (h5.resolve_right (fun e => e hh)), su_ne _ _ h3, su_ne _ _ h2, su_ne _ _ h1]
  · rename_i hh
    rw [su_ne _ _ (h6.resolve_right hh), su_ne _ _ h3, su_ne _ _ h2, su_ne _ _ h1]
theorem apF_last (F : Nat → Int) (i l : Nat) : apF F i l (53 + l) = (i : Int) := su_self _ _ _
theorem apF_new (F : Nat → Int) (i l : Nat) (hi : i < 16) (hn : F (53 + l) = -1 ∨ ∃ y : Nat, F (53 + l) = (y : Int) ∧ y < 16 ∧ y ≠ i) : apF F i l (1 + i) = (l : Int) ∧ apF F i l (17 + i) = F (53 + l) ∧ apF F i l (33 + i) = -1 := by
  have e : ∀ k, k < 49 → (∀ y : Nat, F (53 + l) = (y : Int) → k ≠ 33 + y) → apF F i l k = su (su (su F (1 + i) (l : Int)) (17 + i) (F (53 + l))) (33 + i) (-1) k := fun k hk hy => by
    unfold apF
    rw [su_ne _ _ (by omega)]
    split
    · rw [su_ne _ _ (by omega)]
    · rename_i hh
      rcases hn with hn | ⟨y, hn, _⟩
      · exact absurd hn hh
      · rw [hn]
        exact su_ne _ _ (hy y hn)
  refine ⟨?_, ?_, ?_⟩
  · rw [e _ (by omega) (fun y _ => by omega), su_ne _ _ (by omega), su_ne _ _ (by omega), su_self]
  · rw [e _ (by omega) (fun y _ => by omega), su_ne _ _ (by omega), su_self]
  · rw [e _ (by omega) (fun y hy => by
      rcases hn with hn | ⟨z, hn, _, hz⟩
      · omega
      · omega), su_self]
theorem QOk.append {F : Nat → Int} {n i l : Nat} {R : Nat → List Nat} (h : QOk F n R) (hi : i < n) (hl : l < 4) (hno : ∀ m, m < 4 → i ∉ R m) : QOk (apF F i l) n (setR R l (R l ++ [i])) := by
  have h16 := h.n16
  have hr := h.row l hl
  have hx16 : ∀ m, m < 4 → ∀ x ∈ R m, x < 16 ∧ x ≠ i := fun m hm x hx => ⟨by have := h.lt m hm x hx; omega, fun e => hno m hm (e ▸ hx)⟩
  have hlast : (R l = [] ∧ F (53 + l) = -1) ∨ ∃ (A : List Nat) (y : Nat), R l = A ++ [y] ∧ F (53 + l) = (y : Int) ∧ y < 16 ∧ y ≠ i := by
    rcases List.eq_nil_or_concat (R l) with e | ⟨A, y, e⟩
    · exact Or.inl ⟨e, by rw [hr.la, e]; rfl⟩
    · have e : R l = A ++ [y] := by simpa using e
      have := hx16 l hl y (by rw [e]; simp)
      exact Or.inr ⟨A, y, e, by rw [hr.la, e, lsO_snoc], this⟩
  have hn : F (53 + l) = -1 ∨ ∃ y : Nat, F (53 + l) = (y : Int) ∧ y < 16 ∧ y ≠ i := by
    rcases hlast with ⟨_, h⟩ | ⟨A, y, _, h⟩
    · exact Or.inl h
    · exact Or.inr ⟨y, h⟩
  obtain ⟨a1, a2, a3⟩ := apF_new F i l (by omega) hn
  have keep : ∀ x, x < 16 → x ≠ i → apF F i l (1 + x) = F (1 + x) ∧ apF F i l (17 + x) = F (17 + x) ∧ (F (53 + l) ≠ (x : Int) → apF F i l (33 + x) = F (33 + x)) := fun x hx hxi =>
    ⟨apF_at F i l _ (by omega) (by omega) (by omega) (by omega) (Or.inl (by omega)) (Or.inl (by omega)),
     apF_at F i l _ (by omega) (by omega) (by omega) (by omega) (Or.inl (by omega)) (by
       rcases hn with e | ⟨y, e, _⟩
       · exact Or.inr e
       · left; rw [e]; omega),
     fun hne => apF_at F i l _ (by omega) (by omega) (by omega) (by omega) (Or.inl (by omega)) (by
       rcases hn with e | ⟨y, e, _⟩
       · exact Or.inr e
       · left; rw [e] at hne ⊢; omega)⟩
  refine ⟨(apF_at F i l 0 (by omega) (by omega) (by omega) (by omega) (Or.inl (by omega)) (Or.inl (by omega))).trans h.n0, h.n1, h.n16, fun m hm => ?_, fun m hm x hx => ?_, fun x hx hxn => ?_⟩
  · by_cases hml : m = l
    · subst hml
      rw [show setR R m (R m ++ [i]) m = R m ++ [i] from if_pos rfl]
      have hnd : (R m ++ [i]).Nodup := by
        rw [List.nodup_append]
        exact ⟨hr.nd, by simp, fun a ha b hb e => by simp at hb; subst hb; subst e; exact hno m hl ha⟩
      rcases hlast with ⟨hL, he⟩ | ⟨A, y, hL, he, hy, hyi⟩
      · rw [hL] at hnd ⊢
        refine ⟨⟨⟨a1, a2.trans he, a3⟩, trivial⟩, ?_, apF_last _ _ _, hnd⟩
        show apF F i m (49 + m) = (i : Int)
        unfold apF
        rw [su_ne _ _ (by omega), if_pos he, su_self]
      · have ht : (F (53 + m)).toNat = y := by rw [he]; rfl
        have hsg := hr.sg
        rw [hL] at hnd hsg ⊢
        have hnd2 : (A ++ [y]).Nodup := (List.nodup_append.1 hnd).1
        have hyA : y ∉ A := fun hh => (List.nodup_append.1 hnd2).2.2 y hh y (by simp) rfl
        obtain ⟨s1, ⟨t1, t2, t3⟩, _⟩ := (seg_append F m A [y] (-1) (-1)).1 hsg
        have hA : ∀ x ∈ A, apF F i m (1 + x) = F (1 + x) ∧ apF F i m (17 + x) = F (17 + x) ∧ apF F i m (33 + x) = F (33 + x) := fun x hx => by
          obtain ⟨b1, b2⟩ := hx16 m hm x (by rw [hL]; simp [hx])
          obtain ⟨k1, k2, k3⟩ := keep x b1 b2
          exact ⟨k1, k2, k3 (by rw [he]; intro e; have : x = y := by omega
                                subst this; exact hyA hx)⟩
        obtain ⟨k1, k2, _⟩ := keep y hy hyi
        refine ⟨(seg_append _ m (A ++ [y]) [i] (-1) (-1)).2 ⟨(seg_append _ m A [y] (-1) _).2 ⟨seg_same s1 hA, ⟨k1.trans t1, k2.trans t2, ?_⟩, trivial⟩, ⟨a1, by rw [a2, he, lsO_snoc], a3⟩, trivial⟩, ?_, ?_, hnd⟩
        · show apF F i m (33 + y) = (i : Int)
          unfold apF
          rw [su_ne _ _ (by omega), if_neg (by rw [he]; omega), ht, su_self]
        · rw [apF_at F i m _ (by omega) (by omega) (by omega) (by omega) (Or.inr (by rw [he]; omega)) (Or.inl (by rw [ht]; omega)), hr.fi, hL]
          cases A <;> rfl
        · rw [apF_last, lsO_snoc]
    · have hm' := h.row m hm
      rw [show setR R l (R l ++ [i]) m = R m from if_neg hml]
      refine ⟨seg_same hm'.sg fun x hx => ?_, ?_, ?_, hm'.nd⟩
      · obtain ⟨b1, b2⟩ := hx16 m hm x hx
        obtain ⟨k1, k2, k3⟩ := keep x b1 b2
        refine ⟨k1, k2, k3 fun e => ?_⟩
        rcases hlast with ⟨_, he⟩ | ⟨A, y, hL, he, _⟩
        · omega
        · have : x = y := by omega
          subst this
          exact hml (h.one hm hl hx (by rw [hL]; simp))
      · rw [apF_at F i l _ (by omega) (by omega) (by omega) (by omega) (Or.inl (by omega)) (by
          rcases hn with e | ⟨y, e, _⟩
          · exact Or.inr e
          · left; rw [e]; omega), hm'.fi]
      · rw [apF_at F i l _ (by omega) (by omega) (by omega) (by omega) (Or.inl (by omega)) (by
          rcases hn with e | ⟨y, e, _⟩
          · exact Or.inr e
          · left; rw [e]; omega), hm'.la]
  · unfold setR at hx
    split at hx
    · rcases List.mem_append.1 hx with hx | hx
      · exact h.lt l hl x hx
      · simp at hx; omega
    · exact h.lt m hm x hx
  · have hxi : x ≠ i := fun e => hxn l hl (by unfold setR; rw [if_pos rfl, e]; simp)
    rw [(keep x hx hxi).1]
    exact h.no x hx fun m hm hxm => hxn m hm (by
      unfold setR
      split
      · rename_i e; subst e; exact List.mem_append.2 (Or.inl hxm)
      · exact hxm)
end Go.Proofs.Ytaemnelfnopjdaa
