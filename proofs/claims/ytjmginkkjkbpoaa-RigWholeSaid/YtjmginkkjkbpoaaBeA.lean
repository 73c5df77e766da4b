/- Contracts of package be (cellaret): walks. -/
import Derived.Test.YtjmginkkjkbpoaaProg
import Derived.Test.YtjmginkkjkbpoaaLib
import Derived.WalkLawsBesides
import Derived.Handy
import Derived.Lib.Hide
namespace Go.Proofs.Ytjmginkkjkbpoaa
open Go.RowKit Go.Deep

theorem Try.info_u8 : (Try.prog.info? 5).map (fun i => (i.zero, i.size, i.bytes)) = some (some (.int .u8 0), 1, 1) := by kernel_rfl

end Go.Proofs.Ytjmginkkjkbpoaa
