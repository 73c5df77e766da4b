/- Contracts (cellaret): sha.turn. -/
import Derived.Test.YtbbanhjcchnhpaaProg
import Derived.Test.YtbbanhjcchnhpaaShA
import Derived.WalkLawsBesides
import Derived.Handy
import Derived.Lib.Hide
import Derived.Outline
namespace Go.Proofs.Ytbbanhjcchnhpaa
open Go.RowKit Go.Deep
set_option linter.unusedVariables false
def Tn (n : Nat) : Prop := n = 2 ∨ n = 3 ∨ n = 6 ∨ n = 7 ∨ n = 10 ∨ n = 11 ∨ n = 13 ∨ n = 17 ∨ n = 18 ∨ n = 19 ∨ n = 22 ∨ n = 25
end Go.Proofs.Ytbbanhjcchnhpaa
