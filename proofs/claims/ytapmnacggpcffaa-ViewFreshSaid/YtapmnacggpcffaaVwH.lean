/- Package view: numbers of images, plainly. -/
import Derived.Test.YtapmnacggpcffaaVwG
namespace Go.Proofs.Ytapmnacggpcffaa
open Go.RowKit Go.Deep
set_option linter.unusedVariables false
set_option linter.unusedSimpArgs false
theorem findI_none {L : List Mi} {a : Int} (h : ∀ j (hj : j < L.length), L[j].1 ≠ a) : findI L a = none := by
  unfold findI
  rw [List.find?_eq_none]
  intro x hx
  obtain ⟨j, hj, rfl⟩ := List.getElem_of_mem hx
  simpa using h j hj
theorem findI_ins {x : Mi} {a : Int} : ∀ {D : List Mi}, (∀ y ∈ D, y.1 ≠ x.1) → findI (insI x D) a = if x.1 = a then some x else findI D a
  | [], _ => by
    unfold insI findI
    by_cases h : x.1 = a
    · rw [if_pos h, List.find?_cons_of_pos (by simpa using h)]
    · rw [if_neg h, List.find?_cons_of_neg (by simpa using h)]
  | y :: r, h => by
    have ih := findI_ins (x := x) (a := a) (D := r) (fun z hz => h z (by simp [hz]))
    have hy := h y (by simp)
    unfold insI
    split
    · unfold findI
      by_cases hx : x.1 = a
      · rw [if_pos hx, List.find?_cons_of_pos (by simpa using hx)]
      · rw [if_neg hx, List.find?_cons_of_neg (by simpa using hx)]
    · unfold findI at ih ⊢
      by_cases hya : y.1 = a
      · rw [List.find?_cons_of_pos (by simpa using hya), List.find?_cons_of_pos (by simpa using hya), if_neg (by omega)]
      · rw [List.find?_cons_of_neg (by simpa using hya), List.find?_cons_of_neg (by simpa using hya)]
        exact ih
theorem findI_del (M : List Mi) (k a : Int) : findI (delI M k) a = if a = k then none else findI M a := by
  by_cases h : a = k
  · rw [if_pos h]
    refine findI_none (fun j hj => ?_)
    have := (delI_mem.1 (List.getElem_mem hj)).2
    omega
  · rw [if_neg h]
    unfold findI delI
    rw [List.find?_filter]
    congr 1
    funext p
    by_cases hp : p.1 = a
    · simp [hp, h]
    · simp [hp]
theorem findI_set (M : List Mi) (x : Mi) (a : Int) : findI (setI M x) a = if x.1 = a then some x else findI M a := by
  unfold setI
  rw [findI_ins (fun y hy => (delI_mem.1 hy).2), findI_del]
  by_cases h : x.1 = a
  · rw [if_pos h, if_pos h]
  · rw [if_neg h, if_neg h, if_neg (fun e => h e.symm)]
/-- A number, and the block that has it. -/
abbrev Nb : Type := Int × ByteArray
def idxN (N : List Nb) (v : Int) : Option Nat := N.findIdx? (fun p => decide (p.1 = v))
theorem idxN_some {N : List Nb} {v : Int} {k : Nat} (h : idxN N v = some k) : ∃ hk : k < N.length, N[k].1 = v := by
  unfold idxN at h
  rw [List.findIdx?_eq_some_iff_getElem] at h
  obtain ⟨hk, h1, _⟩ := h
  exact ⟨hk, by simpa using h1⟩
theorem idxN_app (N : List Nb) (x : Nb) (v : Int) : idxN (N ++ [x]) v = match idxN N v with | some k => some k | none => if x.1 = v then some N.length else none := by
  unfold idxN
  rw [List.findIdx?_append]
  cases h : List.findIdx? (fun p => decide (p.1 = v)) N with
  | some k => simp
  | none => by_cases hx : x.1 = v <;> simp [List.findIdx?_cons, hx]
/-- One block more. -/
def frS (N : List Nb) (v : Int) (b : ByteArray) : Option (List Nb) :=
  if v < 0 then some N else match idxN N v with
    | none => some (N ++ [(v, b)])
    | some k => if (N.getD k (0, ⟨#[]⟩)).2 = b then some N else none
def frImg (s : ByteArray) : Nat → List Nb → Option (List Nb)
  | 0, N => some N
  | n + 1, N => (frImg s n N).bind fun M => frS M (numV s n) (blkP s n)
def frAll : List ByteArray → List Nb → Option (List Nb)
  | [], N => some N
  | s :: r, N => (frImg s 288 N).bind (frAll r)
theorem frImg_succ (s : ByteArray) (i : Nat) (N : List Nb) : frImg s (i + 1) N = (frImg s i N).bind fun M => frS M (numV s i) (blkP s i) := rfl
theorem frImg_none {s : ByteArray} {N : List Nb} {i : Nat} (h : frImg s i N = none) : ∀ j, frImg s (i + j) N = none
  | 0 => h
  | j + 1 => by
    show (frImg s (i + j) N).bind _ = none
    rw [frImg_none h j]; rfl
/-- The map of the numbers. -/
structure FrI (N : List Nb) (M : List Mi) : Prop where
  srt : SrtI M
  wf : WfI M
  len : M.length = N.length
  at_ : ∀ v, findI M v = (idxN N v).map fun k => (v, (k : Int))
theorem FrI.zero : FrI [] [] := ⟨List.Pairwise.nil, fun _ h => absurd h (by simp), rfl, fun _ => rfl⟩
theorem FrI.add {N : List Nb} {M : List Mi} (h : FrI N M) {v : Int} {b : ByteArray} (hv : InI v) (hn : idxN N v = none) : FrI (N ++ [(v, b)]) (setI M (v, (N.length : Int))) := by
  have hno : findI M v = none := by rw [h.at_, hn]; rfl
  refine ⟨srtI_set h.srt _, wfI_set h.wf hv, ?_, fun a => ?_⟩
  · have hd : delI M v = M := by
      unfold delI
      rw [List.filter_eq_self]
      intro p hp
      unfold findI at hno
      have := List.find?_eq_none.1 hno p hp
      simpa using this
    show (insI (v, (N.length : Int)) (delI M v)).length = _
    rw [insI_len, hd, h.len, List.length_append]; rfl
  · rw [findI_set, h.at_, idxN_app]
    cases hi : idxN N a with
    | some k =>
      by_cases e : v = a
      · subst e; rw [hn] at hi; cases hi
      · simp [e]
    | none => by_cases e : v = a <;> simp [e]
theorem numV_bd (s : ByteArray) (i : Nat) : numV s i = -1 ∨ (0 ≤ numV s i ∧ numV s i ≤ 1099511627776) := by
  unfold numV
  split
  · rename_i h
    right
    have h1 := h.1
    unfold okK at h1
    simp only [Bool.and_eq_true] at h1
    exact okN_true h1.1.1.2
  · left; rfl
def freN (L : List ByteArray) : Int := match frAll L [] with | some N => (N.length : Int) | none => 0
def freE (L : List ByteArray) : Int := match frAll L [] with | some _ => 0 | none => 12
theorem fre_some {L : List ByteArray} {N : List Nb} (h : frAll L [] = some N) : freN L = (N.length : Int) ∧ freE L = 0 := by unfold freN freE; rw [h]; exact ⟨rfl, rfl⟩
theorem fre_none {L : List ByteArray} (h : frAll L [] = none) : freN L = 0 ∧ freE L = 12 := by unfold freN freE; rw [h]; exact ⟨rfl, rfl⟩
end Go.Proofs.Ytapmnacggpcffaa
