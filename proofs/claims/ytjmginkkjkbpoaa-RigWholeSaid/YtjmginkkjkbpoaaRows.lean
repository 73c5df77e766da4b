/-
  No cell of these rows narrows 'for every input' (looked for: loops, veiled, ifaces, maps, wideKeys, modest, calm, conditions, laid).
  DERIVED. THE GIVEN ROWS OF THIS SEAT. 2 by the template 'for every input the law returns true; each argument reads behind the call as it read before'; 0 by the template 'total and deterministic' (their statements: YtjmginkkjkbpoaaTotals.lean).
  GIVEN WITH THE SEED: the statements are not yours to turn. If you find one false, say at which input.
  Laid BY PROGRAM, IN A SANDBOX (cutbox-rows.mjs): the forced cells as the released guide's own fill.sh prints them over the translation fcc249f02ee60934… (all of the seat's roots in one cut). By AI agents, Wed Nov 11 2026. No macro, syntax, notation, axiom, sorry.
-/
import Derived.Test.YtjmginkkjkbpoaaChecked
import GoSem.Claim
import GoSem.ClaimJoined
import GoSem.ClaimMapViews
import Derived.JoinedTies
import Derived.KernelRfl
namespace Go.Proofs.Ytjmginkkjkbpoaa
/- THE CELL 'sum', in the pinned program and in every row, IS THE sha256 OF THE DUMP (.gsa) THAT YtjmginkkjkbpoaaProg.lean LOADS. Nothing in Lean hashes anything: it is a label: what it is worth is what the hold of that sum in a sandbox is worth. -/
noncomputable def Try.pinned : Pinned := { name := "ytjmginkkjkbpoaa", sum := "fcc249f02ee6093479be87d89b7367fee31d354fc68938d795ee2fa6ef26baeb", checked := Try.checked }
namespace Rows
def none {H : Type} : Left H := { results := [], args := [] }

/-- 'cellaretlaw12.RigWhole': WHATEVER THE INPUT: true; the input reads as it did. -/
def rigWholeSpec : ChangeSpec := { name := "rigWhole", fn := fun _ => fun
  | [d] => { results := [.lit (.bool true)], args := [d] }
  | _ => none }
def rigWholeRow : OpenClaim := { program := "ytjmginkkjkbpoaa", sum := "fcc249f02ee6093479be87d89b7367fee31d354fc68938d795ee2fa6ef26baeb", func := "cellaret/cellaretlaw12.RigWhole", spec := "rigWhole", unfollowed := true, recurses := true, apart := false }
def RigWholeSaid : Prop := rigWholeRow.holds Try.pinned (OpenSpec.ofChange rigWholeSpec)

/-- ITS FALSE NEIGHBOUR: 'it returns false'. Refute it at one input. -/
def rigWholeWrong : ChangeSpec := { name := "rigWhole", fn := fun _ => fun
  | [d] => { results := [.lit (.bool false)], args := [d] }
  | _ => none }
def RigWholeWrongFalsely : Prop := rigWholeRow.holds Try.pinned (OpenSpec.ofChange rigWholeWrong)

/-- 'cellaretlaw12.RigNone': WHATEVER THE INPUT: true; the input reads as it did. -/
def rigNoneSpec : ChangeSpec := { name := "rigNone", fn := fun _ => fun
  | [d] => { results := [.lit (.bool true)], args := [d] }
  | _ => none }
def rigNoneRow : OpenClaim := { program := "ytjmginkkjkbpoaa", sum := "fcc249f02ee6093479be87d89b7367fee31d354fc68938d795ee2fa6ef26baeb", func := "cellaret/cellaretlaw12.RigNone", spec := "rigNone", unfollowed := true, recurses := true, apart := false }
def RigNoneSaid : Prop := rigNoneRow.holds Try.pinned (OpenSpec.ofChange rigNoneSpec)

/-- ITS FALSE NEIGHBOUR: 'it returns false'. Refute it at one input. -/
def rigNoneWrong : ChangeSpec := { name := "rigNone", fn := fun _ => fun
  | [d] => { results := [.lit (.bool false)], args := [d] }
  | _ => none }
def RigNoneWrongFalsely : Prop := rigNoneRow.holds Try.pinned (OpenSpec.ofChange rigNoneWrong)

/- THE SECOND FORM. 'bulk': how many values and letters a reading holds, each counted each time it is reached (what is shared counts as often as it is met; a slice's spare places count too). A statement '..UptoSaid' is the law's where the arguments, and the package variables that the reading takes, are together of bulk at most 1048576: NARROWER than '..Said'. Prove '..Said' where nothing that the law and all that it calls make is longer than what came in: it says more and counts as full. Else prove '..UptoSaid'. A law counts once. -/
mutual
def uptoBulk {H : Type} : DataW H → Nat
  | .lit (.string bytes) => bytes.length + 1
  | .lit _ => 1
  | .nil => 1
  | .ptr d => uptoBulk d + 1
  | .slice elems spare => uptoBulkAll elems + uptoBulkAll spare + 1
  | .agg parts => uptoBulkAll parts + 1
  | .iface _ d => uptoBulk d + 1
  | .map entries => uptoBulkEntries entries + 1
  | .held _ => 1
def uptoBulkAll {H : Type} : List (DataW H) → Nat
  | [] => 0
  | d :: r => uptoBulk d + uptoBulkAll r
def uptoBulkEntries {H : Type} : List (Lit × DataW H) → Nat
  | [] => 0
  | x :: r => uptoBulkEntry x + uptoBulkEntries r
def uptoBulkEntry {H : Type} : Lit × DataW H → Nat
  | (.string bytes, d) => bytes.length + uptoBulk d + 1
  | (_, d) => uptoBulk d + 1
 end
def uptoSmall : (H : Type) → List (DataW H) → Bool := fun _ ds => decide (uptoBulkAll ds ≤ 1048576)
def OpenSpec.upto (s : _root_.Go.ChangeSpec) : _root_.Go.OpenSpec := { _root_.Go.OpenSpec.ofChange s with cond := some uptoSmall }

/-- 'cellaretlaw12.RigWhole', WHERE WHAT IT READS IS OF BULK AT MOST 1048576: true; the input reads as it did. -/
def rigWholeUptoRow : OpenClaim := { program := "ytjmginkkjkbpoaa", sum := "fcc249f02ee6093479be87d89b7367fee31d354fc68938d795ee2fa6ef26baeb", func := "cellaret/cellaretlaw12.RigWhole", spec := "rigWhole", unfollowed := true, recurses := true, apart := false, narrowed := true }
def RigWholeUptoSaid : Prop := rigWholeUptoRow.holds Try.pinned (OpenSpec.upto rigWholeSpec)

/-- 'cellaretlaw12.RigNone', WHERE WHAT IT READS IS OF BULK AT MOST 1048576: true; the input reads as it did. -/
def rigNoneUptoRow : OpenClaim := { program := "ytjmginkkjkbpoaa", sum := "fcc249f02ee6093479be87d89b7367fee31d354fc68938d795ee2fa6ef26baeb", func := "cellaret/cellaretlaw12.RigNone", spec := "rigNone", unfollowed := true, recurses := true, apart := false, narrowed := true }
def RigNoneUptoSaid : Prop := rigNoneUptoRow.holds Try.pinned (OpenSpec.upto rigNoneSpec)

end Rows
end Go.Proofs.Ytjmginkkjkbpoaa
