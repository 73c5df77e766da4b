/- An oracle that may be nil: its Sum, and what stays (layers 14, 17). -/
import Derived.Test.YtaneecmfgfkaaaaDoorOrV
import Derived.Test.YtaneecmfgfkaaaaDoorSpZ
namespace Go.Proofs.YtaneecmfgfkaaaaDoor
open Go.RowKit Go.Deep Go.Maps
set_option linter.unusedVariables false
set_option linter.unusedSimpArgs false
/-- What an oracle keeps behind one more Sum. -/
def orNext (l : List (List UInt8)) (s : List UInt8) : List (List UInt8) := if s ∈ l then l else l ++ [s]
theorem mem_orNext (l : List (List UInt8)) (s x : List UInt8) : x ∈ orNext l s ↔ x ∈ l ∨ x = s := by
  unfold orNext
  split
  · exact ⟨Or.inl, fun h => h.elim id (fun e => e ▸ ‹_›)⟩
  · simp
theorem orNext_len (l : List (List UInt8)) (s : List UInt8) : (orNext l s).length ≤ l.length + 1 := by
  unfold orNext
  split
  · omega
  · simp
theorem OrKept.same {w w' : World} {g b : Nat} {tv sv : Value} (hb : Below w.heap.size w w') : OrKept w w' g b tv sv tv sv :=
  ⟨fun k o hk _ _ _ _ => (hb.block k (Array.getElem?_eq_some_iff.1 hk).1).trans hk, fun _ e => Or.inl e, fun _ e => Or.inl e⟩
theorem orSum_or (base g : Nat) (l : List (List UInt8)) (tv sv : Value) (b : Nat) (D : DataW Unit) (s : ByteArray) (w : World) (hG : Gl w) (hbf : 0 < base) (hbk : 1 < base) (hP : OrP base w g l tv sv b D) (hs : s.size ≤ 1125899906842000) (hl : l.length ≤ 1000000) :
    Calls Tryd.prog 13 #[.pointer (some ⟨g, 0, none⟩), .string s] w fun e w' => ∃ tv' sv' D', e = .returned (.agg (digA (sumL s.data.toList))) ∧ OrP base w' g (orNext l s.data.toList) tv' sv' b D' ∧ Below base w w' ∧ OrKept w w' g b tv sv tv' sv' := by
  by_cases hin : s.data.toList ∈ l
  · refine (orSum_old base g l tv sv b D s w hP (by unfold maxLen; omega) hin hl).mono ?_
    rintro e w' ⟨rfl, B⟩
    have hbw : base ≤ w.heap.size := Nat.le_trans hP.hb (Nat.le_of_lt (Array.getElem?_eq_some_iff.1 hP.hg).1)
    exact ⟨tv, sv, D, rfl, by unfold orNext; rw [if_pos hin]; exact hP.below B, B.mono hbw, OrKept.same B⟩
  · refine (orSum_newK base g l tv sv b D s w hG hbf hbk hP hs hin hl).mono ?_
    rintro e w' ⟨tv', sv', D', rfl, P, B, K⟩
    exact ⟨tv', sv', D', rfl, by unfold orNext; rw [if_neg hin]; exact P, B, K⟩
/-- An oracle's place, what it keeps, its rows, its map. -/
structure OrS where
  g : Nat
  l : List (List UInt8)
  tv : Value
  sv : Value
  b : Nat
  D : DataW Unit
/-- No oracle, or one that keeps texts. -/
def OrX (base : Nat) (w : World) : Option Addr → Option OrS → Prop
  | none, none => base ≤ w.heap.size
  | some a, some S => a = ⟨S.g, 0, none⟩ ∧ OrP base w S.g S.l S.tv S.sv S.b S.D
  | _, _ => False
/-- A block that is not the oracle's own. -/
def FreeX (X : Option OrS) (k : Nat) : Prop := ∀ S, X = some S → k ≠ S.g ∧ k ≠ S.b ∧ S.tv.ownBlock ≠ some k ∧ S.sv.ownBlock ≠ some k
structure KeptX (w w' : World) (X X' : Option OrS) : Prop where
  keep : ∀ k o, w.heap[k]? = some o → FreeX X k → w'.heap[k]? = some o
  free : ∀ k, k < w.heap.size → FreeX X k → FreeX X' k
  size : w.heap.size ≤ w'.heap.size
theorem KeptX.trans {w w1 w2 : World} {X X1 X2 : Option OrS} (h : KeptX w w1 X X1) (h' : KeptX w1 w2 X1 X2) : KeptX w w2 X X2 :=
  ⟨fun k o hk hf => h'.keep k o (h.keep k o hk hf) (h.free k (Array.getElem?_eq_some_iff.1 hk).1 hf), fun k hk hf => h'.free k (Nat.lt_of_lt_of_le hk h.size) (h.free k hk hf), Nat.le_trans h.size h'.size⟩
theorem KeptX.below {w w' : World} {X : Option OrS} (hb : Below w.heap.size w w') : KeptX w w' X X :=
  ⟨fun k o hk _ => (hb.block k (Array.getElem?_eq_some_iff.1 hk).1).trans hk, fun _ _ h => h, hb.size⟩
theorem KeptX.refl (w : World) (X : Option OrS) : KeptX w w X X := ⟨fun _ _ h _ => h, fun _ _ h => h, Nat.le_refl _⟩
/-- A store into a row that is new since w. -/
theorem KeptX.row {w w' : World} {X X' : Option OrS} (h : KeptX w w' X X') (q : Nat) (Y : Array Value) (hq : w.heap.size ≤ q) : KeptX w (w'.setRow q Y) X X' :=
  ⟨fun k o hk hf => (setRow_other w' q k Y (fun e => by have := (Array.getElem?_eq_some_iff.1 hk).1; omega)).trans (h.keep k o hk hf), h.free, by rw [size_setRow]; exact h.size⟩
theorem FreeX.none (k : Nat) : FreeX none k := fun _ e => by cases e
theorem OrX.base {base : Nat} {w : World} {o : Option Addr} {X : Option OrS} (h : OrX base w o X) : base ≤ w.heap.size := by
  match o, X, h with
  | .none, .none, h => exact h
  | some a, some S, h => exact Nat.le_trans h.2.hb (Nat.le_of_lt (Array.getElem?_eq_some_iff.1 h.2.hg).1)
theorem OrX.below {base : Nat} {w w' : World} {o : Option Addr} {X : Option OrS} (h : OrX base w o X) (hb : Below w.heap.size w w') : OrX base w' o X := by
  match o, X, h with
  | .none, .none, h => exact Nat.le_trans h hb.size
  | some a, some S, h => exact ⟨h.1, h.2.below hb⟩
/-- What is newer than the oracle is not its own. -/
theorem OrX.free {base : Nat} {w : World} {o : Option Addr} {X : Option OrS} (h : OrX base w o X) (k : Nat) (hk : w.heap.size ≤ k) : FreeX X k := by
  match o, X, h with
  | .none, .none, h => exact FreeX.none k
  | some a, some S, h =>
    intro S' e
    cases e
    have h1 := (Array.getElem?_eq_some_iff.1 h.2.hg).1
    have h2 := h.2.hm.lt
    exact ⟨by omega, by omega, fun e => by have := (h.2.ht.lt k e).2; omega, fun e => by have := (h.2.hs.lt k e).2; omega⟩
theorem OrX.row {base : Nat} {w : World} {o : Option Addr} {X : Option OrS} (h : OrX base w o X) (q : Nat) (Y : Array Value) (hq : FreeX X q) : OrX base (w.setRow q Y) o X := by
  match o, X, h with
  | .none, .none, h => exact (by rw [size_setRow]; exact h : base ≤ (w.setRow q Y).heap.size)
  | some a, some S, h =>
    obtain ⟨h1, h2, h3, h4⟩ := hq S rfl
    have hP := h.2
    exact ⟨h.1, hP.hb, (setRow_other w q S.g Y (Ne.symm h1)).trans hP.hg, own_at_block hP.ht (fun k e => setRow_other w q k Y (fun e2 => h3 (e2 ▸ e))), own_at_block hP.hs (fun k e => setRow_other w q k Y (fun e2 => h4 (e2 ▸ e))), map_at_block hP.hm (setRow_other w q S.b Y (Ne.symm h2)), hP.hbb, hP.ix, hP.nd⟩
/-- How many texts an oracle keeps at most. -/
def FewX (X : Option OrS) (n : Nat) : Prop := ∀ S, X = some S → S.l.length ≤ n
/-- What X' keeps: all that X keeps, and a text. -/
def SumX (X X' : Option OrS) (s : List UInt8) : Prop := (X = none → X' = none) ∧ ∀ S, X = some S → ∃ S', X' = some S' ∧ S'.g = S.g ∧ S'.l = orNext S.l s
theorem SumX.few {X X' : Option OrS} {s : List UInt8} {n : Nat} (h : SumX X X' s) (hn : FewX X n) : FewX X' (n + 1) := fun S' e => by
  cases X with
  | none => rw [h.1 rfl] at e; cases e
  | some S =>
    obtain ⟨S2, e2, _, hl⟩ := h.2 S rfl
    rw [e2] at e
    cases e
    rw [hl]
    have := hn S rfl
    have := orNext_len S.l s
    omega
theorem sum_x (base : Nat) (o : Option Addr) (X : Option OrS) (s : ByteArray) (w : World) (hG : Gl w) (hbf : 0 < base) (hbk : 1 < base) (hX : OrX base w o X) (hF : FewX X 1000000) (hs : s.size ≤ 1125899906842000) :
    Calls Tryd.prog 13 #[.pointer o, .string s] w fun e w' => ∃ X', e = .returned (.agg (digA (sumL s.data.toList))) ∧ OrX base w' o X' ∧ SumX X X' s.data.toList ∧ Below base w w' ∧ KeptX w w' X X' := by
  match o, X, hX with
  | none, none, h =>
    refine (orSum_nil s w hG hs).mono ?_
    rintro e w' ⟨rfl, B⟩
    exact ⟨none, rfl, Nat.le_trans h B.size, ⟨fun _ => rfl, fun _ e => (by cases e)⟩, B.mono h, KeptX.below B⟩
  | some a, some S, h =>
    obtain ⟨ha, hP⟩ := h
    subst ha
    have h1 := (Array.getElem?_eq_some_iff.1 hP.hg).1
    refine (orSum_or base S.g S.l S.tv S.sv S.b S.D s w hG hbf hbk hP hs (hF S rfl)).mono ?_
    rintro e w' ⟨tv', sv', D', rfl, P, B, K⟩
    refine ⟨some ⟨S.g, orNext S.l s.data.toList, tv', sv', S.b, D'⟩, rfl, ⟨rfl, P⟩, ⟨fun e => (by cases e), fun S2 e => (by cases e; exact ⟨_, rfl, rfl, rfl⟩)⟩, B, ⟨fun k o hk hf => ?_, fun k hk hf => ?_, ?_⟩⟩
    · obtain ⟨q1, q2, q3, q4⟩ := hf S rfl
      exact K.keep k o hk q1 q2 q3 q4
    · obtain ⟨q1, q2, q3, q4⟩ := hf S rfl
      intro S2 e
      cases e
      refine ⟨q1, q2, fun e => ?_, fun e => ?_⟩
      · rcases K.ht k e with h | h
        · exact q3 h
        · omega
      · rcases K.hs k e with h | h
        · exact q4 h
        · omega
    · exact B.size
end Go.Proofs.YtaneecmfgfkaaaaDoor
