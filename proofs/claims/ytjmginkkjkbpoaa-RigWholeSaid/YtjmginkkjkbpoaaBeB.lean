/- Contracts of package be (cellaret): reading. -/
import Derived.Test.YtjmginkkjkbpoaaProg
import Derived.Test.YtjmginkkjkbpoaaLibB
import Derived.WalkLawsBesides
import Derived.Handy
import Derived.Lib.Hide
namespace Go.Proofs.Ytjmginkkjkbpoaa
open Go.RowKit Go.Deep

theorem byte0_lt (s : ByteArray) (h0 : 0 < s.size) (h : s.size = 8 → (s.data.toList[0]?.getD 0).toNat < 128) (e : s.size = 8) : ¬ 128 ≤ (s[0].toNat : Int) := by
  have := h e
  rw [byte_head s h0] at this
  omega

end Go.Proofs.Ytjmginkkjkbpoaa
