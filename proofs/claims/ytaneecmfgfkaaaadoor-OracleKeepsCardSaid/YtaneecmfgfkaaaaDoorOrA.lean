/- Which texts a map of places knows (the oracle), plain. -/
import Derived.Test.YtaneecmfgfkaaaaDoorSpB
import Derived.Maps.OwnSet
import Derived.Maps.Views
namespace Go.Proofs.YtaneecmfgfkaaaaDoor
open Go.Maps
set_option linter.unusedVariables false
set_option linter.unusedSimpArgs false
/-- What a text reads as. -/
def kS (x : List UInt8) : Lit := .string x
theorem kS_ne {s t : List UInt8} (h : s ≠ t) : kS s ≠ kS t := fun e => h (by
  unfold kS at e
  injection e)
/-- A map of places tells of each text where it is. -/
def Idx (D : DataW Unit) (l : List (List UInt8)) : Prop := ∀ s : List UInt8, has D (kS s) = decide (s ∈ l) ∧ (s ∈ l → D.atKey (kS s) (.lit (.int .i64 0)) = .lit (.int .i64 (l.idxOf s : Int)))
theorem Idx.nil : Idx (.map []) [] := fun s => ⟨by simp [has], fun h => by cases h⟩
theorem kS_lit (s : List UInt8) : WideAt.IsKeyLit (kS s) := by unfold kS; simp [WideAt.IsKeyLit]
theorem Idx.put {D : DataW Unit} {l : List (List UInt8)} (h : Idx D l) (hD : IsMap D) (s : List UInt8) (hs : s ∉ l) : Idx (D.put (kS s) (.lit (.int .i64 (l.length : Int)))) (l ++ [s]) := fun t => by
  by_cases e : t = s
  · subst e
    refine ⟨by rw [has_put_same hD (kS_lit t)]; simp, fun _ => ?_⟩
    rw [atKey_put_same hD (kS_lit t), List.idxOf_append, if_neg hs]
    simp
  · refine ⟨by rw [has_put_other (kS_ne e), (h t).1]; simp [e], fun ht => ?_⟩
    have htl : t ∈ l := by
      rcases List.mem_append.1 ht with h | h
      · exact h
      · exact absurd (List.mem_singleton.1 h) e
    rw [atKey_put_other (kS_ne e), (h t).2 htl, List.idxOf_append, if_pos htl]
end Go.Proofs.YtaneecmfgfkaaaaDoor
