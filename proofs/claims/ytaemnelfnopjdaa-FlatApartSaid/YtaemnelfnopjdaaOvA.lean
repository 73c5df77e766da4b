/- Package over: a sheet in memory, as a list of blocks by rising places. -/
import Derived.Test.YtaemnelfnopjdaaLvC
import Derived.Maps.OwnSet
import Derived.Maps.RangeWalk
import Derived.Carry
import Derived.Laws.Rows
namespace Go.Proofs.Ytaemnelfnopjdaa
open Go.RowKit Go.Deep
set_option linter.unusedVariables false
set_option linter.unusedSimpArgs false
/-- A block and its place. -/
abbrev Pu : Type := Int × ByteArray
def encS (p : Pu) : DataW Unit := .agg [.lit (.int .i64 p.1), .lit (.string p.2.data.toList)]
def putV (p : Pu) : Value := .agg #[.int .i64 p.1, .string p.2]
/-- How an element reads. -/
def putR (v : Value) : Option (DataW Unit × List MemPlace) :=
  match v with
  | .agg c => (match c.toList with
    | [.int .i64 a, .string s] => some (encS (a, s), [])
    | _ => none)
  | _ => none
theorem putR_mk (p : Pu) : putR (putV p) = some (encS p, []) := rfl
theorem encS_inj {p q : Pu} (h : encS p = encS q) : p = q := by
  obtain ⟨a, s⟩ := p
  obtain ⟨b, t⟩ := q
  unfold encS at h
  injection h with h
  injection h with h1 h2
  injection h1 with h1
  injection h1 with _ h1
  injection h2 with h2 _
  injection h2 with h2
  injection h2 with h2
  have h1 : a = b := h1
  have h2 : s.data.toList = t.data.toList := h2
  have : s = t := by
    obtain ⟨⟨s⟩⟩ := s
    obtain ⟨⟨t⟩⟩ := t
    simp at h2
    rw [h2]
  rw [h1, this]
theorem putR_inv {v : Value} {y : DataW Unit × List MemPlace} (h : putR v = some y) : ∃ p : Pu, v = putV p ∧ y = (encS p, []) := by
  unfold putR at h
  split at h
  · rename_i c
    split at h
    · rename_i a s hl
      cases h
      refine ⟨(a, s), ?_, rfl⟩
      unfold putV
      rw [← Array.toArray_toList (xs := c), hl]
    · cases h
  · cases h
def keyL (a : Int) : Lit := .int .i64 a
def datL (L : List Pu) : List (Lit × DataW Unit) := L.map fun p => (keyL p.1, encS p)
def mapD (L : List Pu) : DataW Unit := .map (datL L)
def delL (L : List Pu) (a : Int) : List Pu := L.filter fun p => decide (p.1 ≠ a)
def insL (x : Pu) : List Pu → List Pu
  | [] => [x]
  | y :: r => if x.1 < y.1 then x :: y :: r else y :: insL x r
def setL (L : List Pu) (x : Pu) : List Pu := insL x (delL L x.1)
def findL (L : List Pu) (a : Int) : Option Pu := L.find? fun p => decide (p.1 = a)
def getL (L : List Pu) (a : Int) : Option ByteArray := (findL L a).map (·.2)
theorem same_key (a b : Int) : (keyL a).sameKey (keyL b) = decide (a = b) := by unfold keyL Lit.sameKey; simp
theorem dat_ins (x : Pu) : ∀ L : List Pu, DataW.insert (keyL x.1, encS x) (datL L) = datL (insL x L)
  | [] => rfl
  | y :: r => by
    have ih := dat_ins x r
    unfold insL
    show (if (keyL x.1).before (keyL y.1) then _ else _) = _
    rw [show (keyL x.1).before (keyL y.1) = decide (x.1 < y.1) from rfl]
    by_cases h : x.1 < y.1
    · rw [if_pos (by simpa using h), if_pos h]; rfl
    · rw [if_neg (by simpa using h), if_neg h]
      show (keyL y.1, encS y) :: DataW.insert (keyL x.1, encS x) (datL r) = _
      rw [ih]; rfl
theorem dat_del (L : List Pu) (a : Int) : (datL L).filter (fun p => !p.1.sameKey (keyL a)) = datL (delL L a) := by
  unfold datL delL
  rw [List.filter_map]
  congr 1
  apply List.filter_congr
  intro p _
  show (!(keyL p.1).sameKey (keyL a)) = _
  rw [same_key]
  by_cases h : p.1 = a <;> simp [h]
theorem map_put (L : List Pu) (x : Pu) : (mapD L).put (keyL x.1) (encS x) = mapD (setL L x) := by
  show DataW.map (DataW.insert (keyL x.1, encS x) ((datL L).filter fun p => !p.1.sameKey (keyL x.1))) = _
  rw [dat_del, dat_ins]; rfl
theorem map_del (L : List Pu) (a : Int) : (mapD L).del (keyL a) = mapD (delL L a) := by
  show DataW.map ((datL L).filter fun p => !p.1.sameKey (keyL a)) = _
  rw [dat_del]; rfl
theorem map_has (L : List Pu) (a : Int) : Maps.has (mapD L) (keyL a) = L.any (fun p => decide (p.1 = a)) := by
  show (datL L).any (fun p => p.1.sameKey (keyL a)) = _
  unfold datL
  rw [List.any_map]
  congr 1
  funext p
  exact same_key p.1 a
theorem map_at (L : List Pu) (a : Int) (z : DataW Unit) : (mapD L).atKey (keyL a) z = match findL L a with | some p => encS p | none => z := by
  simp only [mapD, DataW.atKey]
  have e : (datL L).find? (fun p => p.1.sameKey (keyL a)) = (findL L a).map fun p => (keyL p.1, encS p) := by
    unfold datL findL
    rw [List.find?_map]
    congr 1
    apply congrArg (fun f => List.find? f L)
    funext p
    exact same_key p.1 a
  rw [e]
  cases findL L a <;> rfl
theorem map_size (L : List Pu) : Maps.size (mapD L) = L.length := by
  show (datL L).length = _
  unfold datL
  simp
theorem any_find (L : List Pu) (a : Int) : L.any (fun p => decide (p.1 = a)) = (findL L a).isSome := by
  unfold findL
  rw [Bool.eq_iff_iff, List.any_eq_true, List.find?_isSome]
theorem insL_len (x : Pu) : ∀ L : List Pu, (insL x L).length = L.length + 1
  | [] => rfl
  | y :: r => by
    unfold insL
    split
    · rfl
    · rw [List.length_cons, insL_len x r, List.length_cons]
theorem setL_len (L : List Pu) (x : Pu) : (setL L x).length ≤ L.length + 1 := by
  unfold setL
  rw [insL_len]
  have := List.length_filter_le (fun p : Pu => decide (p.1 ≠ x.1)) L
  unfold delL
  omega
theorem insL_mem {x y : Pu} : ∀ {L : List Pu}, y ∈ insL x L ↔ y = x ∨ y ∈ L
  | [] => by unfold insL; simp
  | z :: r => by
    unfold insL
    split
    · simp
    · rw [List.mem_cons, insL_mem (L := r), List.mem_cons]
      constructor
      · rintro (h | h | h)
        · exact Or.inr (Or.inl h)
        · exact Or.inl h
        · exact Or.inr (Or.inr h)
      · rintro (h | h | h)
        · exact Or.inr (Or.inl h)
        · exact Or.inl h
        · exact Or.inr (Or.inr h)
def Srt (L : List Pu) : Prop := L.Pairwise fun x y => x.1 < y.1
theorem srt_del {L : List Pu} (h : Srt L) (a : Int) : Srt (delL L a) := List.Pairwise.filter _ h
theorem del_mem {L : List Pu} {a : Int} {y : Pu} : y ∈ delL L a ↔ y ∈ L ∧ y.1 ≠ a := by unfold delL; rw [List.mem_filter]; simp
theorem srt_ins {x : Pu} : ∀ {L : List Pu}, Srt L → (∀ y ∈ L, y.1 ≠ x.1) → Srt (insL x L)
  | [], _, _ => by unfold insL Srt; simp
  | y :: r, h, hn => by
    unfold insL
    have h' := List.pairwise_cons.1 h
    split
    · rename_i hlt
      refine List.pairwise_cons.2 ⟨fun z hz => ?_, h⟩
      rcases List.mem_cons.1 hz with rfl | hz
      · exact hlt
      · have := h'.1 z hz; omega
    · rename_i hlt
      have hne := hn y (by simp)
      refine List.pairwise_cons.2 ⟨fun z hz => ?_, srt_ins h'.2 (fun z hz => hn z (by simp [hz]))⟩
      rcases insL_mem.1 hz with rfl | hz
      · omega
      · exact h'.1 z hz
theorem srt_set {L : List Pu} (h : Srt L) (x : Pu) : Srt (setL L x) := srt_ins (srt_del h _) (fun y hy => (del_mem.1 hy).2)
def InI (a : Int) : Prop := -9223372036854775808 ≤ a ∧ a ≤ 9223372036854775807
def Wf (L : List Pu) : Prop := ∀ x ∈ L, InI x.1
theorem wf_set {L : List Pu} (h : Wf L) {x : Pu} (hx : InI x.1) : Wf (setL L x) := fun y hy => by
  rcases insL_mem.1 hy with rfl | hy
  · exact hx
  · exact h y (del_mem.1 hy).1
theorem wf_del {L : List Pu} (h : Wf L) (a : Int) : Wf (delL L a) := fun y hy => h y (del_mem.1 hy).1
theorem key_of {a : Int} (h : InI a) : keyOf Try.prog 3 (.int .i64 a) = some (keyL a) := Maps.keyOf_int_mk Try.underlying3 (by
  unfold InI at h
  have : decide (-9223372036854775808 ≤ a) && decide (a ≤ 9223372036854775807) := by simpa using h
  exact this)
theorem intK : Maps.Keyed Try.prog 3 := Maps.int_keyed Try.underlying3
theorem own_tightM {H : Type} {P : Program} {k : TypeId} {R : Value → Option (DataW H × List MemPlace)} {w : World} {b n : Nat} {D : DataW H} (h : w.ownsMap P k R b n D) : w.ownsMap P k R b (Maps.size D) D := by
  obtain ⟨es, clock, hb, F, hs, hD⟩ := h
  refine ⟨es, clock, hb, F, ?_, hD⟩
  rw [hD]
  simp [Maps.size, length_sorted]
/-- A map of blocks in block b. -/
def MpAt (w : World) (b : Nat) (L : List Pu) : Prop := w.ownsMap Try.prog 3 putR b L.length (mapD L)
theorem MpAt.of {w : World} {b n : Nat} {L : List Pu} (h : w.ownsMap Try.prog 3 putR b n (mapD L)) : MpAt w b L := by
  have := own_tightM h
  rwa [map_size] at this
theorem MpAt.block {w w' : World} {b : Nat} {L : List Pu} (h : MpAt w b L) (e : w'.heap[b]? = w.heap[b]?) : MpAt w' b L := by
  obtain ⟨es, clock, hb, F, hs, hD⟩ := h
  exact ⟨es, clock, e.trans hb, F, hs, hD⟩
theorem MpAt.lt {w : World} {b : Nat} {L : List Pu} (h : MpAt w b L) : b < w.heap.size := World.ownsMap.lt h
section
variable {w w' : World} {B p b : Nat} {L : List Pu}
theorem Kq.of_grown {A : Nat} {r : Nat} {w w' : World} (h : w.grownBy w' (some r)) (hA : A ≤ w.heap.size) (hr : A ≤ r) : Kq A [r] w w' :=
  ⟨⟨h.os, h.tape, h.output, h.size, fun k hk => h.block k (Nat.lt_of_lt_of_le hk hA) (fun e => by injection e with e; omega)⟩, fun k hk hn => h.block k hk (fun e => hn (by injection e with e; simp [e]))⟩
theorem Kq.wide {B : Nat} {L M : List Nat} {w w' : World} (h : Kq B L w w') (hs : ∀ x, x ∈ L → x ∈ M) : Kq B M w w' := ⟨h.below, fun k hk hn => h.other k hk (fun hm => hn (hs k hm))⟩
end
end Go.Proofs.Ytaemnelfnopjdaa
