/- Rows of things on levels, linked by their numbers: a thing taken out (plain lemmas). -/
import Derived.Test.YtaemnelfnopjdaaLvA
namespace Go.Proofs.Ytaemnelfnopjdaa
set_option linter.unusedVariables false
set_option linter.unusedSimpArgs false
/-- The memory behind take: l the thing's level, p what was ahead, q what was behind. -/
def tkF (F : Nat → Int) (i l : Nat) (p q : Int) : Nat → Int :=
  su (su (su (if q = -1 then su (if p = -1 then su F (49 + l) q else su F (33 + p.toNat) q) (53 + l) p else su (if p = -1 then su F (49 + l) q else su F (33 + p.toNat) q) (17 + q.toNat) p) (1 + i) (-1)) (17 + i) (-1)) (33 + i) (-1)
theorem tkF_at (F : Nat → Int) (i l : Nat) (p q : Int) (k : Nat) (h1 : k ≠ 1 + i) (h2 : k ≠ 17 + i) (h3 : k ≠ 33 + i) (hp : p = -1 → k ≠ 49 + l) (hp' : p ≠ -1 → k ≠ 33 + p.toNat) (hq : q = -1 → k ≠ 53 + l) (hq' : q ≠ -1 → k ≠ 17 + q.toNat) : tkF F i l p q k = F k := by
  unfold tkF
  rw [su_ne _ _ h3, su_ne _ _ h2, su_ne _ _ h1]
  split
  · rename_i e
    rw [su_ne _ _ (hq e)]
    split
    · rename_i e2; exact su_ne _ _ (hp e2)
    · rename_i e2; exact su_ne _ _ (hp' e2)
  · rename_i e
    rw [su_ne _ _ (hq' e)]
    split
    · rename_i e2; exact su_ne _ _ (hp e2)
    · rename_i e2; exact su_ne _ _ (hp' e2)
theorem tkF_own (F : Nat → Int) (i l : Nat) (p q : Int) : tkF F i l p q (1 + i) = -1 := by
  unfold tkF
  rw [su_ne _ _ (by omega), su_ne _ _ (by omega), su_self]
/-- What is behind the one ahead. -/
theorem tkF_aft (F : Nat → Int) (i l : Nat) (p q : Int) (y : Nat) (hy : p = (y : Int)) (hy16 : y < 16) (hyi : y ≠ i) (hi : i < 16) (hq : q = -1 ∨ ∃ z : Nat, q = (z : Int) ∧ z < 16) : tkF F i l p q (33 + y) = q := by
  have e : p.toNat = y := by rw [hy]; rfl
  unfold tkF
  rw [su_ne _ _ (by clear hq; omega), su_ne _ _ (by clear hq; omega), su_ne _ _ (by clear hq; omega), if_neg (show ¬ p = -1 by clear hq; omega), e]
  rcases hq with hq | ⟨z, hq, hz⟩
  · rw [if_pos hq, su_ne _ _ (by omega), su_self]
  · rw [if_neg (show ¬ q = -1 by omega), su_ne _ _ (by rw [hq]; simp; omega), su_self]
/-- What is ahead of the one behind. -/
theorem tkF_ahd (F : Nat → Int) (i l : Nat) (p q : Int) (z : Nat) (hz : q = (z : Int)) (hz16 : z < 16) (hzi : z ≠ i) (hi : i < 16) : tkF F i l p q (17 + z) = p := by
  have e : q.toNat = z := by rw [hz]; rfl
  unfold tkF
  rw [su_ne _ _ (by omega), su_ne _ _ (by omega), su_ne _ _ (by omega), if_neg (show ¬ q = -1 by omega), e, su_self]
theorem tkF_fi (F : Nat → Int) (i l : Nat) (p q : Int) (hi : i < 16) (hp : p = -1) (hq : q = -1 ∨ ∃ z : Nat, q = (z : Int) ∧ z < 16) : tkF F i l p q (49 + l) = q := by
  unfold tkF
  rw [su_ne _ _ (by clear hq; omega), su_ne _ _ (by clear hq; omega), su_ne _ _ (by clear hq; omega), if_pos hp]
  rcases hq with hq | ⟨z, hq, hz⟩
  · rw [if_pos hq, su_ne _ _ (by omega), su_self]
  · rw [if_neg (show ¬ q = -1 by omega), su_ne _ _ (by rw [hq]; simp; omega), su_self]
theorem tkF_la (F : Nat → Int) (i l : Nat) (p q : Int) (hi : i < 16) (hq : q = -1) : tkF F i l p q (53 + l) = p := by
  unfold tkF
  rw [su_ne _ _ (by omega), su_ne _ _ (by omega), su_ne _ _ (by omega), if_pos hq, su_self]
theorem hdO_mem {L : List Nat} {q : Int} (h : L ≠ []) : ∃ y ∈ L, hdO L q = (y : Int) := by
  cases L with
  | nil => exact absurd rfl h
  | cons x xs => exact ⟨x, by simp, rfl⟩
theorem QOk.take {F : Nat → Int} {n i l : Nat} {R : Nat → List Nat} (h : QOk F n R) (hl : l < 4) (hx : i ∈ R l) :
    ∃ A B, R l = A ++ i :: B ∧ F (1 + i) = (l : Int) ∧ F (17 + i) = lsO A (-1) ∧ F (33 + i) = hdO B (-1) ∧ QOk (tkF F i l (lsO A (-1)) (hdO B (-1))) n (setR R l (A ++ B)) := by
  obtain ⟨A, B, hL⟩ := List.append_of_mem hx
  have h16 := h.n16
  have hr := h.row l hl
  have hin := h.lt l hl i hx
  obtain ⟨s1, ⟨t1, t2, t3⟩, s2⟩ := (seg_append F l A (i :: B) (-1) (-1)).1 (by rw [← hL]; exact hr.sg)
  have hnd := hr.nd
  rw [hL] at hnd
  obtain ⟨n1, n2, n3⟩ := List.nodup_append.1 hnd
  have hiB : i ∉ B := (List.nodup_cons.1 n2).1
  have hnB : B.Nodup := (List.nodup_cons.1 n2).2
  have hiA : i ∉ A := fun hh => n3 i hh i (by simp) rfl
  have hAB : ∀ x ∈ A, x ∉ B := fun x ha hb => n3 x ha x (by simp [hb]) rfl
  have hmA : ∀ x ∈ A, x ∈ R l := fun x hx => by rw [hL]; simp [hx]
  have hmB : ∀ x ∈ B, x ∈ R l := fun x hx => by rw [hL]; simp [hx]
  have h16A : ∀ x ∈ A, x < 16 ∧ x ≠ i := fun x hx => ⟨by have := h.lt l hl x (hmA x hx); omega, fun e => hiA (e ▸ hx)⟩
  have h16B : ∀ x ∈ B, x < 16 ∧ x ≠ i := fun x hx => ⟨by have := h.lt l hl x (hmB x hx); omega, fun e => hiB (e ▸ hx)⟩
  have hp : (A = [] ∧ lsO A (-1) = -1) ∨ ∃ (A' : List Nat) (a : Nat), A = A' ++ [a] ∧ lsO A (-1) = (a : Int) := by
    rcases List.eq_nil_or_concat A with e | ⟨A', a, e⟩
    · exact Or.inl ⟨e, by rw [e]; rfl⟩
    · have e : A = A' ++ [a] := by simpa using e
      exact Or.inr ⟨A', a, e, by rw [e, lsO_snoc]⟩
  have hq : (B = [] ∧ hdO B (-1) = -1) ∨ ∃ (b : Nat) (B' : List Nat), B = b :: B' ∧ hdO B (-1) = (b : Int) := by
    cases B with
    | nil => exact Or.inl ⟨rfl, rfl⟩
    | cons b B' => exact Or.inr ⟨b, B', rfl, rfl⟩
  refine ⟨A, B, hL, t1, t2, t3, ?_⟩
  generalize hpe : lsO A (-1) = p at *
  generalize hqe : hdO B (-1) = q at *
  have hq16 : q = -1 ∨ ∃ z : Nat, q = (z : Int) ∧ z < 16 := by
    rcases hq with ⟨_, e⟩ | ⟨b, B', e, e2⟩
    · exact Or.inl e
    · exact Or.inr ⟨b, e2, (h16B b (by rw [e]; simp)).1⟩
  have hp16 : p = -1 ∨ ∃ z : Nat, p = (z : Int) ∧ z < 16 ∧ z ∈ A := by
    rcases hp with ⟨_, e⟩ | ⟨A', a, e, e2⟩
    · exact Or.inl e
    · exact Or.inr ⟨a, e2, (h16A a (by rw [e]; simp)).1, by rw [e]; simp⟩
  have low : ∀ k, k < 17 → k ≠ 1 + i → tkF F i l p q k = F k := fun k h1 h2 => tkF_at F i l p q k h2 (by omega) (by omega) (fun _ => by omega) (fun _ => by omega) (fun _ => by omega) (fun _ => by omega)
  have high : ∀ m, m < 4 → m ≠ l → tkF F i l p q (49 + m) = F (49 + m) ∧ tkF F i l p q (53 + m) = F (53 + m) := fun m hm hne => by
    constructor
    · refine tkF_at F i l p q _ (by omega) (by omega) (by omega) (fun _ => by omega) (fun e => ?_) (fun _ => by omega) (fun e => ?_)
      · rcases hp16 with e2 | ⟨z, e2, hz, _⟩
        · exact absurd e2 e
        · rw [e2]; simp; omega
      · rcases hq16 with e2 | ⟨z, e2, hz⟩
        · exact absurd e2 e
        · rw [e2]; simp; omega
    · refine tkF_at F i l p q _ (by omega) (by omega) (by omega) (fun _ => by omega) (fun e => ?_) (fun _ => by omega) (fun e => ?_)
      · rcases hp16 with e2 | ⟨z, e2, hz, _⟩
        · exact absurd e2 e
        · rw [e2]; simp; omega
      · rcases hq16 with e2 | ⟨z, e2, hz⟩
        · exact absurd e2 e
        · rw [e2]; simp; omega
  have ah : ∀ x, x < 16 → x ≠ i → q ≠ (x : Int) → tkF F i l p q (17 + x) = F (17 + x) := fun x h1 h2 h3 =>
    tkF_at F i l p q _ (by omega) (by omega) (by omega) (fun _ => by omega) (fun e => by omega) (fun _ => by omega) (fun e => by
      rcases hq16 with e2 | ⟨z, e2, hz⟩
      · exact absurd e2 e
      · rw [e2] at h3 ⊢; simp; omega)
  have af : ∀ x, x < 16 → x ≠ i → p ≠ (x : Int) → tkF F i l p q (33 + x) = F (33 + x) := fun x h1 h2 h3 =>
    tkF_at F i l p q _ (by omega) (by omega) (by omega) (fun _ => by omega) (fun e => by
      rcases hp16 with e2 | ⟨z, e2, hz, _⟩
      · exact absurd e2 e
      · rw [e2] at h3 ⊢; simp; omega) (fun _ => by omega) (fun e => by
      rcases hq16 with e2 | ⟨z, e2, hz⟩
      · exact absurd e2 e
      · rw [e2]; simp; omega)
  have segA : seg (tkF F i l p q) l (-1) A q := by
    rcases hp with ⟨e, _⟩ | ⟨A', a, e, e2⟩
    · rw [e]; trivial
    · have ha := h16A a (by rw [e]; simp)
      rw [e] at s1
      have haA' : a ∉ A' := fun hh => by
        rw [e] at n1
        exact (List.nodup_append.1 n1).2.2 a hh a (by simp) rfl
      obtain ⟨u1, ⟨v1, v2, _⟩, _⟩ := (seg_append F l A' [a] (-1) _).1 s1
      have hqa : q ≠ (a : Int) := fun e3 => by
        rcases hq with ⟨_, e4⟩ | ⟨b, B', e4, e5⟩
        · omega
        · have : b = a := by omega
          subst this
          exact hAB b (by rw [e]; simp) (by rw [e4]; simp)
      rw [e]
      refine (seg_append _ l A' [a] (-1) _).2 ⟨seg_same u1 fun x hx => ?_, ⟨(low _ (by omega) (by omega)).trans v1, (ah a ha.1 ha.2 hqa).trans v2, ?_⟩, trivial⟩
      · obtain ⟨b1, b2⟩ := h16A x (by rw [e]; simp [hx])
        refine ⟨low _ (by omega) (by omega), ah x b1 b2 fun e3 => ?_, af x b1 b2 fun e3 => ?_⟩
        · rcases hq with ⟨_, e4⟩ | ⟨b, B', e4, e5⟩
          · omega
          · have : b = x := by omega
            subst this
            exact hAB b (by rw [e]; simp [hx]) (by rw [e4]; simp)
        · have : x = a := by omega
          subst this
          exact haA' hx
      · exact tkF_aft F i l p q a e2 ha.1 ha.2 (by omega) hq16
  have segB : seg (tkF F i l p q) l p B (-1) := by
    rcases hq with ⟨e, _⟩ | ⟨b, B', e, e2⟩
    · rw [e]; trivial
    · have hb := h16B b (by rw [e]; simp)
      rw [e] at s2 hnB
      obtain ⟨⟨v1, _, v3⟩, u2⟩ := s2
      have hpx : ∀ x ∈ B, p ≠ (x : Int) := fun x hx e3 => by
        rcases hp16 with e4 | ⟨z, e4, _, hz⟩
        · omega
        · have : z = x := by omega
          subst this
          exact hAB z hz hx
      rw [e]
      refine ⟨⟨(low _ (by omega) (by omega)).trans v1, tkF_ahd F i l p q b e2 hb.1 hb.2 (by omega), (af b hb.1 hb.2 (hpx b (by rw [e]; simp))).trans v3⟩, seg_same u2 fun x hx => ?_⟩
      obtain ⟨b1, b2⟩ := h16B x (by rw [e]; simp [hx])
      refine ⟨low _ (by omega) (by omega), ah x b1 b2 fun e3 => ?_, af x b1 b2 (hpx x (by rw [e]; simp [hx]))⟩
      have : b = x := by omega
      subst this
      exact (List.nodup_cons.1 hnB).1 hx
  refine ⟨(low 0 (by omega) (by omega)).trans h.n0, h.n1, h.n16, fun m hm => ?_, fun m hm x hx => ?_, fun x hx hxn => ?_⟩
  · by_cases hml : m = l
    · subst hml
      rw [show setR R m (A ++ B) m = A ++ B from if_pos rfl]
      refine ⟨(seg_append _ m A B (-1) (-1)).2 ⟨by rw [hqe]; exact segA, by rw [hpe]; exact segB⟩, ?_, ?_, List.nodup_append.2 ⟨n1, hnB, fun a ha b hb => fun e => hAB a ha (e ▸ hb)⟩⟩
      · rw [hdO_append, hqe]
        rcases hp with ⟨e, e2⟩ | ⟨A', a, e, e2⟩
        · rw [e]
          exact tkF_fi F i m p q (by omega) e2 hq16
        · have hh : tkF F i m p q (49 + m) = F (49 + m) := by
            refine tkF_at F i m p q _ (by omega) (by omega) (by omega) (fun e3 => by omega) (fun e3 => ?_) (fun _ => by omega) (fun e3 => ?_)
            · have := (h16A a (by rw [e]; simp)).1
              rw [e2]; simp; omega
            · rcases hq16 with e4 | ⟨z, e4, hz⟩
              · exact absurd e4 e3
              · rw [e4]; simp; omega
          rw [hh, hr.fi, hL, hdO_append, e]
          cases A' <;> rfl
      · rw [lsO_append, hpe]
        rcases hq with ⟨e, e2⟩ | ⟨b, B', e, e2⟩
        · rw [e]
          exact tkF_la F i m p q (by omega) e2
        · have hh : tkF F i m p q (53 + m) = F (53 + m) := by
            refine tkF_at F i m p q _ (by omega) (by omega) (by omega) (fun e3 => by omega) (fun e3 => ?_) (fun e3 => by omega) (fun e3 => ?_)
            · rcases hp16 with e4 | ⟨z, e4, hz, _⟩
              · exact absurd e4 e3
              · rw [e4]; simp; omega
            · have := (h16B b (by rw [e]; simp)).1
              rw [e2]; simp; omega
          rw [hh, hr.la, hL, lsO_append, e]
          rfl
    · have hm' := h.row m hm
      rw [show setR R l (A ++ B) m = R m from if_neg hml]
      have hne : ∀ x ∈ R m, x < 16 ∧ x ≠ i ∧ x ∉ A ∧ x ∉ B := fun x hx =>
        ⟨by have := h.lt m hm x hx; omega, fun e => hml (h.one hm hl hx (e ▸ ‹i ∈ R l›)), fun ha => hml (h.one hm hl hx (hmA x ha)), fun hb => hml (h.one hm hl hx (hmB x hb))⟩
      refine ⟨seg_same hm'.sg fun x hx => ?_, (high m hm hml).1.trans hm'.fi, (high m hm hml).2.trans hm'.la, hm'.nd⟩
      obtain ⟨b1, b2, b3, b4⟩ := hne x hx
      refine ⟨low _ (by omega) (by omega), ah x b1 b2 fun e3 => ?_, af x b1 b2 fun e3 => ?_⟩
      · rcases hq with ⟨_, e4⟩ | ⟨b, B', e4, e5⟩
        · omega
        · have : b = x := by omega
          subst this
          exact b4 (by rw [e4]; simp)
      · rcases hp16 with e4 | ⟨z, e4, _, hz⟩
        · omega
        · have : z = x := by omega
          subst this
          exact b3 hz
  · unfold setR at hx
    split at hx
    · rcases List.mem_append.1 hx with hx | hx
      · exact h.lt l hl x (hmA x hx)
      · exact h.lt l hl x (hmB x hx)
    · exact h.lt m hm x hx
  · by_cases hxi : x = i
    · subst hxi; exact tkF_own F x l p q
    · rw [low _ (by omega) (by omega)]
      refine h.no x hx fun m hm hxm => hxn m hm ?_
      unfold setR
      split
      · rename_i e
        subst e
        rw [hL] at hxm
        rcases List.mem_append.1 hxm with hh | hh
        · exact List.mem_append.2 (Or.inl hh)
        · rcases List.mem_cons.1 hh with hh | hh
          · exact absurd hh hxi
          · exact List.mem_append.2 (Or.inr hh)
      · exact hxm
end Go.Proofs.Ytaemnelfnopjdaa
