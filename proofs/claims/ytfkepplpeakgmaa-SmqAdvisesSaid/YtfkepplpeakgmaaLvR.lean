/- The reference's queue: Len, Least. -/
import Derived.Test.YtfkepplpeakgmaaLvQ
namespace Go.Proofs.Ytfkepplpeakgmaa
open Go.RowKit Go.Deep
set_option linter.unusedVariables false
set_option linter.unusedSimpArgs false
/-- The first thing of the lowest level, or -1. -/
def lesI (X : Nat → List Nat) : Int := if X 0 ≠ [] then hdO (X 0) (-1) else if X 1 ≠ [] then hdO (X 1) (-1) else if X 2 ≠ [] then hdO (X 2) (-1) else hdO (X 3) (-1)
end Go.Proofs.Ytfkepplpeakgmaa
