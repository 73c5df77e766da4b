/- A map of int to int in memory, as a list of pairs by rising keys. -/
import Derived.Test.YtapmnacggpcffaaOvA
namespace Go.Proofs.Ytapmnacggpcffaa
open Go.RowKit Go.Deep
set_option linter.unusedVariables false
set_option linter.unusedSimpArgs false
/-- A key and its number. -/
abbrev Mi : Type := Int × Int
def encI (p : Mi) : DataW Unit := .lit (.int .i64 p.2)
def miV (p : Mi) : Value := .int .i64 p.2
/-- How an element reads. -/
def miR (v : Value) : Option (DataW Unit × List MemPlace) :=
  match v with
  | .int .i64 a => some (.lit (.int .i64 a), [])
  | _ => none
theorem encI_inj {p q : Mi} (h : encI p = encI q) : p.2 = q.2 := by
  unfold encI at h
  injection h with h
  injection h
theorem miR_inv {v : Value} {y : DataW Unit × List MemPlace} (h : miR v = some y) : ∃ a : Int, v = .int .i64 a ∧ y = (.lit (.int .i64 a), []) := by
  unfold miR at h
  split at h
  · cases h; exact ⟨_, rfl, rfl⟩
  · cases h
def datI (L : List Mi) : List (Lit × DataW Unit) := L.map fun p => (keyL p.1, encI p)
def mapI (L : List Mi) : DataW Unit := .map (datI L)
def delI (L : List Mi) (a : Int) : List Mi := L.filter fun p => decide (p.1 ≠ a)
def insI (x : Mi) : List Mi → List Mi
  | [] => [x]
  | y :: r => if x.1 < y.1 then x :: y :: r else y :: insI x r
def setI (L : List Mi) (x : Mi) : List Mi := insI x (delI L x.1)
def findI (L : List Mi) (a : Int) : Option Mi := L.find? fun p => decide (p.1 = a)
theorem datI_ins (x : Mi) : ∀ L : List Mi, DataW.insert (keyL x.1, encI x) (datI L) = datI (insI x L)
  | [] => rfl
  | y :: r => by
    have ih := datI_ins x r
    unfold insI
    show (if (keyL x.1).before (keyL y.1) then _ else _) = _
    rw [show (keyL x.1).before (keyL y.1) = decide (x.1 < y.1) from rfl]
    by_cases h : x.1 < y.1
    · rw [if_pos (by simpa using h), if_pos h]; rfl
    · rw [if_neg (by simpa using h), if_neg h]
      show (keyL y.1, encI y) :: DataW.insert (keyL x.1, encI x) (datI r) = _
      rw [ih]; rfl
theorem datI_del (L : List Mi) (a : Int) : (datI L).filter (fun p => !p.1.sameKey (keyL a)) = datI (delI L a) := by
  unfold datI delI
  rw [List.filter_map]
  congr 1
  apply List.filter_congr
  intro p _
  show (!(keyL p.1).sameKey (keyL a)) = _
  rw [same_key]
  by_cases h : p.1 = a <;> simp [h]
theorem mapI_put (L : List Mi) (x : Mi) : (mapI L).put (keyL x.1) (encI x) = mapI (setI L x) := by
  show DataW.map (DataW.insert (keyL x.1, encI x) ((datI L).filter fun p => !p.1.sameKey (keyL x.1))) = _
  rw [datI_del, datI_ins]; rfl
theorem mapI_del (L : List Mi) (a : Int) : (mapI L).del (keyL a) = mapI (delI L a) := by
  show DataW.map ((datI L).filter fun p => !p.1.sameKey (keyL a)) = _
  rw [datI_del]; rfl
theorem mapI_has (L : List Mi) (a : Int) : Maps.has (mapI L) (keyL a) = L.any (fun p => decide (p.1 = a)) := by
  show (datI L).any (fun p => p.1.sameKey (keyL a)) = _
  unfold datI
  rw [List.any_map]
  congr 1
  funext p
  exact same_key p.1 a
theorem mapI_at (L : List Mi) (a : Int) (z : DataW Unit) : (mapI L).atKey (keyL a) z = match findI L a with | some p => encI p | none => z := by
  simp only [mapI, DataW.atKey]
  have e : (datI L).find? (fun p => p.1.sameKey (keyL a)) = (findI L a).map fun p => (keyL p.1, encI p) := by
    unfold datI findI
    rw [List.find?_map]
    congr 1
    apply congrArg (fun f => List.find? f L)
    funext p
    exact same_key p.1 a
  rw [e]
  cases findI L a <;> rfl
theorem mapI_size (L : List Mi) : Maps.size (mapI L) = L.length := by
  show (datI L).length = _
  unfold datI
  simp
theorem anyI_find (L : List Mi) (a : Int) : L.any (fun p => decide (p.1 = a)) = (findI L a).isSome := by
  unfold findI
  rw [Bool.eq_iff_iff, List.any_eq_true, List.find?_isSome]
theorem insI_len (x : Mi) : ∀ L : List Mi, (insI x L).length = L.length + 1
  | [] => rfl
  | y :: r => by
    unfold insI
    split
    · rfl
    · rw [List.length_cons, insI_len x r, List.length_cons]
theorem setI_len (L : List Mi) (x : Mi) : (setI L x).length ≤ L.length + 1 := by
  unfold setI
  rw [insI_len]
  have := List.length_filter_le (fun p : Mi => decide (p.1 ≠ x.1)) L
  unfold delI
  omega
theorem insI_mem {x y : Mi} : ∀ {L : List Mi}, y ∈ insI x L ↔ y = x ∨ y ∈ L
  | [] => by unfold insI; simp
  | z :: r => by
    unfold insI
    split
    · simp
    · rw [List.mem_cons, insI_mem (L := r), List.mem_cons]
      constructor
      · rintro (h | h | h)
        · exact Or.inr (Or.inl h)
        · exact Or.inl h
        · exact Or.inr (Or.inr h)
      · rintro (h | h | h)
        · exact Or.inr (Or.inl h)
        · exact Or.inl h
        · exact Or.inr (Or.inr h)
def SrtI (L : List Mi) : Prop := L.Pairwise fun x y => x.1 < y.1
theorem srtI_del {L : List Mi} (h : SrtI L) (a : Int) : SrtI (delI L a) := List.Pairwise.filter _ h
theorem delI_mem {L : List Mi} {a : Int} {y : Mi} : y ∈ delI L a ↔ y ∈ L ∧ y.1 ≠ a := by unfold delI; rw [List.mem_filter]; simp
theorem srtI_ins {x : Mi} : ∀ {L : List Mi}, SrtI L → (∀ y ∈ L, y.1 ≠ x.1) → SrtI (insI x L)
  | [], _, _ => by unfold insI SrtI; simp
  | y :: r, h, hn => by
    unfold insI
    have h' := List.pairwise_cons.1 h
    split
    · rename_i hlt
      refine List.pairwise_cons.2 ⟨fun z hz => ?_, h⟩
      rcases List.mem_cons.1 hz with rfl | hz
      · exact hlt
      · have := h'.1 z hz; omega
    · rename_i hlt
      have hne := hn y (by simp)
      refine List.pairwise_cons.2 ⟨fun z hz => ?_, srtI_ins h'.2 (fun z hz => hn z (by simp [hz]))⟩
      rcases insI_mem.1 hz with rfl | hz
      · omega
      · exact h'.1 z hz
theorem srtI_set {L : List Mi} (h : SrtI L) (x : Mi) : SrtI (setI L x) := srtI_ins (srtI_del h _) (fun y hy => (delI_mem.1 hy).2)
def WfI (L : List Mi) : Prop := ∀ x ∈ L, InI x.1
theorem wfI_set {L : List Mi} (h : WfI L) {x : Mi} (hx : InI x.1) : WfI (setI L x) := fun y hy => by
  rcases insI_mem.1 hy with rfl | hy
  · exact hx
  · exact h y (delI_mem.1 hy).1
theorem wfI_del {L : List Mi} (h : WfI L) (a : Int) : WfI (delI L a) := fun y hy => h y (delI_mem.1 hy).1
/-- A map of numbers in block b. -/
def MiAt (w : World) (b : Nat) (L : List Mi) : Prop := w.ownsMap Try.prog 3 miR b L.length (mapI L)
theorem MiAt.of {w : World} {b n : Nat} {L : List Mi} (h : w.ownsMap Try.prog 3 miR b n (mapI L)) : MiAt w b L := by
  have := own_tightM h
  rwa [mapI_size] at this
theorem MiAt.block {w w' : World} {b : Nat} {L : List Mi} (h : MiAt w b L) (e : w'.heap[b]? = w.heap[b]?) : MiAt w' b L := by
  obtain ⟨es, clock, hb, F, hs, hD⟩ := h
  exact ⟨es, clock, e.trans hb, F, hs, hD⟩
theorem MiAt.lt {w : World} {b : Nat} {L : List Mi} (h : MiAt w b L) : b < w.heap.size := World.ownsMap.lt h
/-- The pairs, read through a map that keeps the keys, are blocks. -/
theorem mi_ins (f : Mi → Pu) (x : Mi) (hx : (f x).1 = x.1) : ∀ {M : List Mi}, (∀ y ∈ M, (f y).1 = y.1) → (insI x M).map f = insL (f x) (M.map f)
  | [], _ => rfl
  | y :: r, h => by
    have hy := h y (by simp)
    have ih := mi_ins f x hx (M := r) (fun z hz => h z (by simp [hz]))
    unfold insI
    rw [List.map_cons]
    unfold insL
    rw [hx, hy]
    split
    · rfl
    · rw [List.map_cons, ih]
theorem mi_del (f : Mi → Pu) (a : Int) {M : List Mi} (h : ∀ y ∈ M, (f y).1 = y.1) : (delI M a).map f = delL (M.map f) a := by
  unfold delI delL
  rw [List.filter_map]
  congr 1
  apply List.filter_congr
  intro p hp
  show decide (p.1 ≠ a) = decide ((f p).1 ≠ a)
  rw [h p hp]
theorem mi_set (f : Mi → Pu) (x : Mi) (hx : (f x).1 = x.1) {M : List Mi} (h : ∀ y ∈ M, (f y).1 = y.1) : (setI M x).map f = setL (M.map f) (f x) := by
  unfold setI setL
  rw [mi_ins f x hx (fun y hy => h y (delI_mem.1 hy).1), mi_del f _ h, hx]
theorem delI_idem (M : List Mi) (a : Int) : delI (delI M a) a = delI M a := by
  unfold delI
  rw [List.filter_filter]
  simp
theorem setI_del (M : List Mi) (x : Mi) : setI (delI M x.1) x = setI M x := by unfold setI; rw [delI_idem]
end Go.Proofs.Ytapmnacggpcffaa
