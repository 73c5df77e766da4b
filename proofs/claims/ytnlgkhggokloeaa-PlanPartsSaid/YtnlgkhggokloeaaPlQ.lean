/- Plans, plainly: what Puts make of an image, by places. -/
import Derived.Test.YtnlgkhggokloeaaPlP
namespace Go.Proofs.Ytnlgkhggokloeaa
open Go.RowKit Go.Deep
set_option linter.unusedVariables false
set_option linter.unusedSimpArgs false
theorem find_ins {x : Pu} {a : Int} : ∀ {D : List Pu}, (∀ y ∈ D, y.1 ≠ x.1) → findL (insL x D) a = if x.1 = a then some x else findL D a
  | [], _ => by
    unfold insL findL
    by_cases h : x.1 = a
    · rw [if_pos h, List.find?_cons_of_pos (by simpa using h)]
    · rw [if_neg h, List.find?_cons_of_neg (by simpa using h)]
  | y :: r, h => by
    have ih := find_ins (x := x) (a := a) (D := r) (fun z hz => h z (by simp [hz]))
    have hy := h y (by simp)
    unfold insL
    split
    · unfold findL
      by_cases hx : x.1 = a
      · rw [if_pos hx, List.find?_cons_of_pos (by simpa using hx)]
      · rw [if_neg hx, List.find?_cons_of_neg (by simpa using hx)]
    · unfold findL at ih ⊢
      by_cases hya : y.1 = a
      · rw [List.find?_cons_of_pos (by simpa using hya), List.find?_cons_of_pos (by simpa using hya), if_neg (by omega)]
      · rw [List.find?_cons_of_neg (by simpa using hya), List.find?_cons_of_neg (by simpa using hya)]
        exact ih
theorem find_del (M : List Pu) (k a : Int) : findL (delL M k) a = if a = k then none else findL M a := by
  by_cases h : a = k
  · rw [if_pos h]
    refine find_none (fun j hj => ?_)
    have := (del_mem.1 (List.getElem_mem hj)).2
    omega
  · rw [if_neg h]
    unfold findL delL
    rw [List.find?_filter]
    congr 1
    funext p
    by_cases hp : p.1 = a
    · simp [hp, h]
    · simp [hp]
theorem find_set (M : List Pu) (x : Pu) (a : Int) : findL (setL M x) a = if x.1 = a then some x else findL M a := by
  unfold setL
  rw [find_ins (fun y hy => (del_mem.1 hy).2), find_del]
  by_cases h : x.1 = a
  · rw [if_pos h, if_pos h]
  · rw [if_neg h, if_neg h, if_neg (fun e => h e.symm)]
theorem get_set (M : List Pu) (x : Pu) (a : Int) : getL (setL M x) a = if x.1 = a then some x.2 else getL M a := by
  unfold getL
  rw [find_set]
  split <;> rfl
theorem set_mem {M : List Pu} {x y : Pu} : y ∈ setL M x → y = x ∨ y ∈ M := fun h => by
  unfold setL at h
  rcases insL_mem.1 h with h | h
  · exact Or.inl h
  · exact Or.inr (del_mem.1 h).1
theorem all_mem {L : List Pu} : ∀ p ∈ setAll [] L, p ∈ L := by
  have : ∀ i, i ≤ L.length → ∀ p ∈ setAll [] (L.take i), p ∈ L := by
    intro i
    induction i with
    | zero => intro _ p hp; simp [setAll] at hp
    | succ i ih =>
      intro hi p hp
      rw [take_snoc L i (by omega), setAll_snoc] at hp
      rcases set_mem hp with rfl | hp
      · exact List.getElem_mem _
      · exact ih (by omega) p hp
  intro p hp
  refine this L.length (Nat.le_refl _) p ?_
  rwa [List.take_length]
/-- What lies at a place then. -/
theorem lay_get {L : List Pu} (h : ∀ p ∈ L, okP p = 0) (F : Nat → ByteArray) (j : Nat) : layF F L j = (getL (setAll [] L) (j : Int)).getD (F j) := by
  have : ∀ i, i ≤ L.length → layF F (L.take i) j = (getL (setAll [] (L.take i)) (j : Int)).getD (F j) := by
    intro i
    induction i with
    | zero => intro _; rfl
    | succ i ih =>
      intro hi
      have hp := (okP_zero (h _ (List.getElem_mem (show i < L.length by omega)))).1
      rw [take_snoc L i (by omega), setAll_snoc, layF_snoc, get_set]
      unfold upB
      by_cases e : j = L[i].1.toNat
      · rw [if_pos e, if_pos (by omega)]; rfl
      · rw [if_neg e, if_neg (by omega)]
        exact ih (by omega)
  have h1 := this L.length (Nat.le_refl _)
  rwa [List.take_length] at h1
theorem all_all (L : List Pu) : setAll [] (setAll [] L) = setAll [] L := setAll_srt (srt_all L)
theorem get_own {P : List Pu} (h : Srt P) {p : Pu} (hp : p ∈ P) : getL P p.1 = some p.2 := by
  obtain ⟨i, hi, rfl⟩ := List.getElem_of_mem hp
  unfold getL
  rw [find_srt h i hi]; rfl
theorem get_mem {P : List Pu} {a : Int} {b : ByteArray} (h : getL P a = some b) : (a, b) ∈ P := by
  unfold getL findL at h
  cases hf : P.find? (fun p => decide (p.1 = a)) with
  | none => rw [hf] at h; cases h
  | some p =>
    rw [hf] at h
    have h1 := List.mem_of_find?_eq_some hf
    have h2 := List.find?_some hf
    injection h with h
    have h2 : p.1 = a := by simpa using h2
    have : p = (a, b) := by rw [← h2, ← h]
    rw [← this]; exact h1
theorem cat_congr {F G : Nat → ByteArray} (h : ∀ j, j < 288 → F j = G j) : catF F = catF G := by
  have : catL F = catL G := by
    unfold catL
    rw [List.flatMap_def, List.flatMap_def]
    congr 1
    apply List.map_congr_left
    intro j hj
    rw [h j (List.mem_range.1 hj)]
  unfold catF
  rw [this]
theorem img_ext {s t : ByteArray} (hs : s.size = 18432) (ht : t.size = 18432) (h : ∀ j, j < 288 → blkP s j = blkP t j) : s = t := by
  rw [← blk_cat hs, ← blk_cat ht]; exact cat_congr h
/-- The blocks of an image that Puts were laid on. -/
theorem app_blk {s : ByteArray} {L : List Pu} (hs : s.size = 18432) (h : ∀ p ∈ L, okP p = 0) {j : Nat} (hj : j < 288) : blkP (appA s L) j = (getL (setAll [] L) (j : Int)).getD (blkP s j) := by
  unfold appA
  rw [if_pos (errA_ok0 hs h), cat_blk (layF_img (blk_img hs) h) hj, lay_get h]
theorem app_eq {s : ByteArray} {L : List Pu} (hs : s.size = 18432) (h : ∀ p ∈ L, okP p = 0) : appA s L = catF (layF (blkP s) L) := by
  unfold appA
  rw [if_pos (errA_ok0 hs h)]
theorem okP_all {L : List Pu} (h : ∀ p ∈ L, okP p = 0) : ∀ p ∈ setAll [] L, okP p = 0 := fun p hp => h p (all_mem p hp)
/-- A plan is laid as all its Puts are. -/
theorem app_all {s : ByteArray} {L : List Pu} (hs : s.size = 18432) (h : ∀ p ∈ L, okP p = 0) : appA s (setAll [] L) = appA s L := by
  refine img_ext (app_size (errA_ok0 hs (okP_all h))) (app_size (errA_ok0 hs h)) (fun j hj => ?_)
  rw [app_blk hs (okP_all h) hj, app_blk hs h hj, all_all]
theorem app_twice {s : ByteArray} {L : List Pu} (hs : s.size = 18432) (h : ∀ p ∈ L, okP p = 0) : appA (appA s L) L = appA s L := by
  have hy := app_size (errA_ok0 hs h)
  refine img_ext (app_size (errA_ok0 hy h)) hy (fun j hj => ?_)
  rw [app_blk hy h hj, app_blk hs h hj]
  cases getL (setAll [] L) (j : Int) <;> rfl
/-- Where some of its blocks are there already. -/
theorem app_part {s : ByteArray} {L Q : List Pu} (hs : s.size = 18432) (h : ∀ p ∈ L, okP p = 0) (hq : ∀ p ∈ Q, p ∈ setAll [] L) : appA (appA s Q) (setAll [] L) = appA s (setAll [] L) := by
  have hP := okP_all h
  have hQ : ∀ p ∈ Q, okP p = 0 := fun p hp => hP p (hq p hp)
  have hy := app_size (errA_ok0 hs hQ)
  refine img_ext (app_size (errA_ok0 hy hP)) (app_size (errA_ok0 hs hP)) (fun j hj => ?_)
  rw [app_blk hy hP hj, app_blk hs hP hj, app_blk hs hQ hj, all_all]
  cases hg : getL (setAll [] L) (j : Int) with
  | some b => rfl
  | none =>
    cases hg2 : getL (setAll [] Q) (j : Int) with
    | none => rfl
    | some b =>
      have h1 := hq _ (all_mem _ (get_mem hg2))
      have h2 := get_own (srt_all L) h1
      rw [hg] at h2
      cases h2
/-- Then nothing is missing. -/
theorem mis_none {s : ByteArray} {L : List Pu} (hs : s.size = 18432) (h : ∀ p ∈ L, okP p = 0) : misA (appA s (setAll [] L)) (setAll [] L) = [] := by
  have hP := okP_all h
  have hy := app_size (errA_ok0 hs hP)
  unfold misA
  rw [if_pos (errA_ok0 hy hP)]
  unfold misL
  rw [List.map_eq_nil_iff, List.filter_eq_nil_iff]
  intro p hp
  obtain ⟨h0, h287, _⟩ := okP_zero (hP p hp)
  unfold misP
  have e : ((p.1.toNat : Nat) : Int) = p.1 := by omega
  rw [app_blk hs hP (by omega), all_all, e, get_own (srt_all L) hp]
  simp
theorem srt_ext : ∀ {A B : List Pu}, Srt A → Srt B → (∀ a, findL A a = findL B a) → A = B := by
  intro A B hA hB h
  have hsub : ∀ {A B : List Pu}, Srt A → (∀ a, findL A a = findL B a) → ∀ p ∈ A, p ∈ B := by
    intro A B hA h p hp
    obtain ⟨i, hi, rfl⟩ := List.getElem_of_mem hp
    have h1 := find_srt hA i hi
    rw [h] at h1
    exact List.mem_of_find?_eq_some h1
  have hAB := hsub hA h
  have hBA := hsub hB (fun a => (h a).symm)
  have hnd : ∀ {X : List Pu}, Srt X → X.Nodup := fun hX => List.Pairwise.imp (fun h e => by rw [e] at h; omega) hX
  have hp : A.Perm B := (List.perm_ext_iff_of_nodup (hnd hA) (hnd hB)).2 (fun p => ⟨hAB p, hBA p⟩)
  exact hp.eq_of_pairwise (fun a b _ _ h1 h2 => by omega) hA hB
theorem ofE_all : ∀ {L : List Rv}, ofE L = 0 → ∀ x ∈ L, chkE x.r = 0
  | [], _, x, hx => absurd hx (by simp)
  | y :: r, h, x, hx => by
    unfold ofE at h
    by_cases h0 : chkE y.r ≠ 0
    · rw [if_pos h0] at h; exact absurd h h0
    · rw [if_neg h0] at h
      rcases List.mem_cons.1 hx with rfl | hx
      · exact Classical.not_not.1 h0
      · exact ofE_all h x hx
theorem ofE_ok : ∀ {L : List Rv}, (∀ x ∈ L, chkE x.r = 0) → ofE L = 0
  | [], _ => rfl
  | p :: r, h => by
    unfold ofE
    rw [if_neg (by rw [h p (by simp)]; decide)]
    exact ofE_ok (fun q hq => h q (by simp [hq]))
theorem chk_ok {R : Rc} (h : chkE R = 0) : ∀ p ∈ R.ps, okP p = 0 := fun p hp => by
  obtain ⟨_, _, _, ho⟩ := chkE_zero h
  obtain ⟨i, hi, rfl⟩ := List.getElem_of_mem hp
  have h1 := okPs_low ho i hi
  obtain ⟨_, h2, h3⟩ := ho i hi
  have a1 : pAt R.ps i = (R.ps[i]).1 := by unfold pAt; rw [List.getElem?_eq_getElem hi]; rfl
  have b1 : pB R.ps i = (R.ps[i]).2 := by unfold pB; rw [List.getElem?_eq_getElem hi]; rfl
  rw [a1] at h1 h2
  rw [b1] at h3
  unfold okP
  rw [if_neg (by omega), if_neg (by simpa using h3)]
theorem allP_ok {L : List Rv} (h : ofE L = 0) : ∀ p ∈ allP L, okP p = 0 := fun p hp => by
  unfold allP at hp
  obtain ⟨x, hx, hp⟩ := List.mem_flatMap.1 hp
  exact chk_ok (ofE_all h x hx) p hp
theorem ofL_eq {L : List Rv} (h : ofE L = 0) : ofL L = setAll [] (allP L) := by unfold ofL; rw [if_pos h]
theorem allP_app (A B : List Rv) : allP (A ++ B) = allP A ++ allP B := by unfold allP; rw [List.flatMap_append]
/-- A plan of plans, one behind the other. -/
theorem all_app (A B : List Pu) : setAll [] (setAll [] A ++ setAll [] B) = setAll [] (A ++ B) := by
  have hf : ∀ (M L : List Pu), setAll M L = L.foldl setL M := fun _ _ => rfl
  have e1 : ∀ (M X Y : List Pu), setAll M (X ++ Y) = setAll (setAll M X) Y := fun M X Y => by rw [hf, hf, hf, List.foldl_append]
  refine srt_ext (srt_all _) (srt_all _) (fun a => ?_)
  have hg : ∀ (L M : List Pu) (a : Int), findL (setAll M L) a = (findL (setAll [] L) a).or (findL M a) := by
    intro L M a
    have : ∀ i, i ≤ L.length → findL (setAll M (L.take i)) a = (findL (setAll [] (L.take i)) a).or (findL M a) := by
      intro i
      induction i with
      | zero => intro _; rfl
      | succ i ih =>
        intro hi
        rw [take_snoc L i (by omega), setAll_snoc, setAll_snoc, find_set, find_set, ih (by omega)]
        split <;> rfl
    have h1 := this L.length (Nat.le_refl _)
    rwa [List.take_length] at h1
  rw [e1, e1, hg (setAll [] B), hg B, all_all, all_all]
end Go.Proofs.Ytnlgkhggokloeaa
