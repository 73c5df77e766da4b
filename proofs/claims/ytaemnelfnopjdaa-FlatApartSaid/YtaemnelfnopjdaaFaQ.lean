/- Package flat: what crashed states are kept; the closure of Crash. -/
import Derived.Test.YtaemnelfnopjdaaFaP
namespace Go.Proofs.Ytaemnelfnopjdaa
open Go.RowKit Go.Deep Go.Maps
set_option linter.unusedVariables false
set_option linter.unusedSimpArgs false
theorem lawSt : Keyed Try.prog 56 := Keyed.of_law (deep_law_laid (m := 3) (by kernel_rfl) (by decide) (of_decide_eq_true (by kernel_rfl)) (by kernel_rfl) (by kernel_rfl))
theorem mapM_some {α β : Type} (f : α → Option β) (g : α → β) : ∀ l : List α, (∀ x ∈ l, f x = some (g x)) → l.mapM f = some (l.map g)
  | [], _ => rfl
  | a :: l, h => by
    rw [List.mapM_cons, h a (by simp), mapM_some f g l (fun x hx => h x (by simp [hx]))]
    rfl
theorem nat_wf2 (n : Nat) (h : n ≤ 4000000000) : (Lit.int .i64 (n : Int)).wf = true := by
  have h1 : IntKind.i64.min ≤ (n : Int) ∧ (n : Int) ≤ IntKind.i64.max := by
    rw [show IntKind.i64.min = -9223372036854775808 from by decide, show IntKind.i64.max = 9223372036854775807 from by decide]
    omega
  simpa [Lit.wf] using h1
/-- A state that may be a key. -/
def okS (s : List Nat) : Prop := s.length = 64 ∧ ∀ x ∈ s, x ≤ 1000000
def kSt (s : List Nat) : Lit := .string (keyBytes ((List.range 64).map fun i => [Lit.int .i64 ((s.getD i 0 : Nat) : Int)]).flatten)
set_option maxRecDepth 100000 in
theorem kSt_key {s : List Nat} (h : okS s) : keyOf Try.prog 56 (.agg (stA s)) = some (kSt s) := by
  have hc : (nC s).length = 64 := by rw [nC_len]; exact h.1
  have h64 : Try.prog.cellsOf 56 = 64 := by kernel_rfl
  have h1 : Try.prog.cellsOf 3 = 1 := by kernel_rfl
  have hk : Try.prog.keyType 56 = true := by kernel_rfl
  obtain ⟨d, hd⟩ : ∃ d, Try.prog.types.size = d + 1 := Nat.exists_eq_add_one_of_ne_zero (Nat.ne_of_gt (of_decide_eq_true (by kernel_rfl)))
  have hform : (Value.agg (stA s)).formed Try.prog 56 = true := by
    simp only [Value.formed, Try.underlying56, h64]
    unfold stA
    simpa using hc
  have hcells : (Value.agg (stA s)).cells.toList = nC s := rfl
  have hl : Try.prog.keyLits (d + 1 + 1) 56 (nC s) = some ((List.range 64).map fun i => [Lit.int .i64 ((s.getD i 0 : Nat) : Int)]).flatten := by
    have hm := mapM_some (fun i => Try.prog.keyLits (d + 1) 3 (((nC s).drop (i * 1)).take 1)) (fun i => [Lit.int .i64 ((s.getD i 0 : Nat) : Int)]) (List.range 64) (fun i hi => by
      have hi64 : i < 64 := List.mem_range.1 hi
      have hix : i < s.length := by rw [h.1]; exact hi64
      have e : ((nC s).drop (i * 1)).take 1 = [.int .i64 ((s.getD i 0 : Nat) : Int)] := by
        rw [Nat.mul_one]
        have : (nC s).drop i = .int .i64 ((s.getD i 0 : Nat) : Int) :: (nC s).drop (i + 1) := by
          rw [List.drop_eq_getElem_cons (by omega)]
          congr 1
          unfold nC
          rw [List.getElem_map, List.getD_eq_getElem?_getD, List.getElem?_eq_getElem hix]
          rfl
        rw [this]
        rfl
      have hx : s.getD i 0 ≤ 1000000 := by
        rw [List.getD_eq_getElem?_getD, List.getElem?_eq_getElem hix]
        exact h.2 _ (List.getElem_mem hix)
      simp only [e, Program.keyLits, Try.underlying3]
      rw [if_pos ⟨trivial, nat_wf2 _ (by omega)⟩])
    simp only [Program.keyLits, Try.underlying56, h64, h1, hc, if_true] at hm ⊢
    rw [hm]
    rfl
  unfold keyOf
  simp only [Try.underlying56, hk, hform, Bool.and_self, if_true, hd, hcells, hl, Option.map_some]
  rfl
theorem nC_inj {a b : List Nat} (h : nC a = nC b) : a = b := by
  unfold nC at h
  have := List.map_inj_right (f := fun (x : Nat) => Value.int .i64 (x : Int)) (fun x y e => by injection e with _ e; exact Int.ofNat.inj e) |>.1 h
  exact this
theorem kSt_inj {a b : List Nat} (ha : okS a) (hb : okS b) (h : kSt a = kSt b) : a = b := by
  have h1 := kSt_key ha
  have h2 := kSt_key hb
  rw [h] at h1
  have := lawSt.inj h1 h2
  injection this with this
  apply nC_inj
  have e := congrArg Array.toList this
  unfold stA at e
  simpa using e
/-- What the map of the seen ones tells. -/
def SeenD (D : DataW Unit) (L : List (List Nat)) : Prop := ∀ s, okS s → has D (kSt s) = decide (s ∈ L)
theorem SeenD.nil : SeenD (.map []) [] := fun s _ => by simp [has]
theorem SeenD.put {D : DataW Unit} {L : List (List Nat)} (h : SeenD D L) (hD : IsMap D) {s : List Nat} (hs : okS s) (d : DataW Unit) : SeenD (D.put (kSt s) d) (L ++ [s]) := fun t ht => by
  by_cases e : t = s
  · subst e
    rw [has_put_same hD (lawSt.key (kSt_key ht))]
    simp
  · rw [has_put_other (fun q => e (kSt_inj ht hs q)), h t ht]
    simp [e]
def addL (L : List (List Nat)) (s : List Nat) : List (List Nat) := if s ∈ L then L else L ++ [s]
/-- The states that were added, in memory. -/
structure CrAt (w : World) (B q2 q3 : Nat) (L : List (List Nat)) (v : Value) (bm : Nat) (D : DataW Unit) : Prop where
  h2 : w.heap[q2]? = some (.cells #[.map (some bm)] 86 (0, 0))
  h3 : w.heap[q3]? = some (.cells #[v] 57 (0, 0))
  hm : w.ownsMap Try.prog 56 (plainElem Try.prog 3) bm L.length D
  hr : w.ownsRow B 56 64 v L.length (L.flatMap nC)
  sd : SeenD D L
  ok : ∀ s ∈ L, okS s
  b2 : B ≤ q2
  b3 : B ≤ q3
  bb : B ≤ bm
def CrL (q2 q3 : Nat) (v : Value) (bm : Nat) : List Nat := q2 :: q3 :: bm :: v.ownBlock.toList
def CrW (w : World) (B q2 q3 : Nat) (OL : List Nat) (L : List (List Nat)) : Prop := ∃ v bm D, CrAt w B q2 q3 L v bm D ∧ OL = CrL q2 q3 v bm
def CrS (w w' : World) (B q2 q3 : Nat) (OL : List Nat) (L : List (List Nat)) : Prop := ∃ OL', CrW w' B q2 q3 OL' L ∧ Kq B OL w w' ∧ ∀ k ∈ OL', k ∈ OL ∨ w.heap.size ≤ k
theorem CrL_mem {q2 q3 bm k : Nat} {v : Value} : k ∈ CrL q2 q3 v bm ↔ k = q2 ∨ k = q3 ∨ k = bm ∨ v.ownBlock = some k := by
  unfold CrL
  simp [Option.mem_toList]
section
variable {w w' : World} {B q2 q3 bm : Nat} {L : List (List Nat)} {v : Value} {D : DataW Unit} {OL : List Nat}
theorem CrAt.lt (h : CrAt w B q2 q3 L v bm D) {k : Nat} (hk : k ∈ CrL q2 q3 v bm) : k < w.heap.size ∧ B ≤ k := by
  rcases CrL_mem.1 hk with rfl | rfl | rfl | e
  · exact ⟨(Array.getElem?_eq_some_iff.1 h.h2).1, h.b2⟩
  · exact ⟨(Array.getElem?_eq_some_iff.1 h.h3).1, h.b3⟩
  · exact ⟨World.ownsMap.lt h.hm, h.bb⟩
  · exact ⟨(h.hr.lt k e).2, (h.hr.lt k e).1⟩
theorem CrAt.same (h : CrAt w B q2 q3 L v bm D) (ho : ∀ k ∈ CrL q2 q3 v bm, w'.heap[k]? = w.heap[k]?) : CrAt w' B q2 q3 L v bm D :=
  { h with
    h2 := (ho q2 (CrL_mem.2 (Or.inl rfl))).trans h.h2
    h3 := (ho q3 (CrL_mem.2 (Or.inr (Or.inl rfl)))).trans h.h3
    hm := map_at_block h.hm (ho bm (CrL_mem.2 (Or.inr (Or.inr (Or.inl rfl)))))
    hr := own_at_block h.hr (fun k e => ho k (CrL_mem.2 (Or.inr (Or.inr (Or.inr e))))) }
theorem CrW.same (h : CrW w B q2 q3 OL L) (ho : ∀ k ∈ OL, w'.heap[k]? = w.heap[k]?) : CrW w' B q2 q3 OL L := by
  obtain ⟨v, bm, D, h, rfl⟩ := h
  exact ⟨v, bm, D, h.same ho, rfl⟩
theorem CrW.lt (h : CrW w B q2 q3 OL L) {k : Nat} (hk : k ∈ OL) : k < w.heap.size ∧ B ≤ k := by
  obtain ⟨v, bm, D, h, rfl⟩ := h
  exact h.lt hk
theorem CrAt.ne23 (h : CrAt w B q2 q3 L v bm D) : q2 ≠ q3 := fun e => by
  have h1 := h.h2
  rw [e, h.h3] at h1
  have := tyAt_cells h.h3
  have h2 := tyAt_cells h.h2
  rw [e, this] at h2
  revert h2; decide
theorem CrAt.ne2m (h : CrAt w B q2 q3 L v bm D) : q2 ≠ bm := map_block h.hm h.h2
theorem CrAt.ne3m (h : CrAt w B q2 q3 L v bm D) : q3 ≠ bm := map_block h.hm h.h3
theorem CrAt.nev (h : CrAt w B q2 q3 L v bm D) {k : Nat} (e : v.ownBlock = some k) : k ≠ q2 ∧ k ≠ q3 ∧ k ≠ bm := by
  have ht := tyAt_row h.hr e
  refine ⟨fun e2 => ?_, fun e2 => ?_, fun e2 => ?_⟩
  · rw [e2, tyAt_cells h.h2] at ht; revert ht; decide
  · rw [e2, tyAt_cells h.h3] at ht; revert ht; decide
  · rw [e2, tyAt_map h.hm] at ht; cases ht
end
end Go.Proofs.Ytaemnelfnopjdaa
