/- Contracts of package dice (cellaret): Order. -/
import Derived.Test.YtfkepplpeakgmaaDiB
namespace Go.Proofs.Ytfkepplpeakgmaa
open Go.RowKit Go.Deep
set_option linter.unusedVariables false

theorem map_snoc (out : List Int) (z : Int) : (out ++ [z]).map (Value.int .i64) = out.map (Value.int .i64) ++ [.int .i64 z] := by simp
theorem range_cells (k : Nat) : ((List.range (k + 1)).map Int.ofNat).map (Value.int .i64) = ((List.range k).map Int.ofNat).map (Value.int .i64) ++ [.int .i64 (k : Int)] := by
  rw [List.range_succ]; simp
theorem ownsRow_lower {w : World} {b c : Nat} {e : TypeId} {s n : Nat} {v : Value} {xs : List Value} (h : w.ownsRow b e s v n xs) (hc : c ≤ b) : w.ownsRow c e s v n xs := by
  refine ⟨h.1, ?_⟩
  rcases h.2 with h0 | ⟨g, cap, cur, h1, h2, h3⟩
  · exact .inl h0
  · exact .inr ⟨g, cap, cur, h1, Nat.le_trans hc h2, h3⟩
end Go.Proofs.Ytfkepplpeakgmaa
