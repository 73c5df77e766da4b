/- Digests compared, unlike (seats that sum). -/
import Derived.Test.YtaneecmfgfkaaaaDoorOrL
namespace Go.Proofs.YtaneecmfgfkaaaaDoor
open Go.RowKit Go.Deep
set_option linter.unusedVariables false
theorem neq_of_eql {P : Program} {t : TypeId} {xs ys : Array Value} {w : World} {c : Bool} (h : (binOp .eql t (.agg xs) (.agg ys)).run P w = .ok (.bool c) w) : (binOp .neq t (.agg xs) (.agg ys)).run P w = .ok (.bool (!c)) w := by
  rw [run_eql_struct] at h
  rw [run_neq_struct]
  cases hq : (Op.equalIn 10000 t (.agg xs) (.agg ys)).run P w with
  | ok b w' =>
    rw [hq] at h
    simp only [Result.andThen_ok] at h ⊢
    injection h with h1 h2
    injection h1 with h1
    rw [h1, h2]
  | _ => rw [hq] at h; simp [Result.andThen] at h
theorem neq_dig2 (x y : List UInt8) (hx : x.length = 32) (hy : y.length = 32) (w : World) : (binOp .neq 34 (.agg (digA x)) (.agg (digA y))).run Tryd.prog w = .ok (.bool (!(x == y))) w := neq_of_eql (eql_dig2 x y hx hy w)
end Go.Proofs.YtaneecmfgfkaaaaDoor
