/- Contracts of package be (cellaret): Xor, readers. -/
import Derived.Test.YtefbfpolfbdfgaaProg
import Derived.Test.YtefbfpolfbdfgaaLibB
import Derived.Test.YtefbfpolfbdfgaaBeA
import Derived.WalkLawsBesides
import Derived.Handy
import Derived.Lib.Hide
import Derived.RegionTactic
import Derived.Deep.QuietTactic
import Derived.BigQuiet
namespace Go.Proofs.Ytefbfpolfbdfgaa
open Go.RowKit Go.Deep

end Go.Proofs.Ytefbfpolfbdfgaa
