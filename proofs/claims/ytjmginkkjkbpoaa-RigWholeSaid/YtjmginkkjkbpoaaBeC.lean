/- Contracts of package be (cellaret): Xor, readers. -/
import Derived.Test.YtjmginkkjkbpoaaProg
import Derived.Test.YtjmginkkjkbpoaaLibB
import Derived.Test.YtjmginkkjkbpoaaBeA
import Derived.WalkLawsBesides
import Derived.Handy
import Derived.Lib.Hide
import Derived.RegionTactic
import Derived.Deep.QuietTactic
import Derived.BigQuiet
namespace Go.Proofs.Ytjmginkkjkbpoaa
open Go.RowKit Go.Deep

end Go.Proofs.Ytjmginkkjkbpoaa
