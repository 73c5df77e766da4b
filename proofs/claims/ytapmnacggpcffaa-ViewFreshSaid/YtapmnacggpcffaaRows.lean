/-
  No cell of these rows narrows 'for every input' (looked for: loops, veiled, ifaces, maps, wideKeys, modest, calm, conditions, laid).
  DERIVED. THE GIVEN ROWS OF THIS SEAT. 3 by the template 'for every input the law returns true; each argument reads behind the call as it read before'; 0 by the template 'total and deterministic' (their statements: YtapmnacggpcffaaTotals.lean).
  GIVEN WITH THE SEED: the statements are not yours to turn. If you find one false, say at which input.
  Laid BY PROGRAM, IN A SANDBOX (cutbox-rows.mjs): the forced cells as the released guide's own fill.sh prints them over the translation 8d8966d4ed499f85… (all of the seat's roots in one cut). By AI agents, Wed Nov 11 2026. No macro, syntax, notation, axiom, sorry.
-/
import Derived.Test.YtapmnacggpcffaaChecked
import GoSem.Claim
import GoSem.ClaimJoined
import GoSem.ClaimMapViews
import Derived.JoinedTies
import Derived.KernelRfl
namespace Go.Proofs.Ytapmnacggpcffaa
/- THE CELL 'sum', in the pinned program and in every row, IS THE sha256 OF THE DUMP (.gsa) THAT YtapmnacggpcffaaProg.lean LOADS. Nothing in Lean hashes anything: it is a label: what it is worth is what the hold of that sum in a sandbox is worth. -/
noncomputable def Try.pinned : Pinned := { name := "ytapmnacggpcffaa", sum := "8d8966d4ed499f852c2002694cb324fa089caa53f8a8465e2a63ca52c73aa23e", checked := Try.checked }
namespace Rows
def none {H : Type} : Left H := { results := [], args := [] }

/-- 'cellaretlaw33.ViewLooks': WHATEVER THE INPUT: true; the input reads as it did. -/
def viewLooksSpec : ChangeSpec := { name := "viewLooks", fn := fun _ => fun
  | [d1, d2] => { results := [.lit (.bool true)], args := [d1, d2] }
  | _ => none }
def viewLooksRow : OpenClaim := { program := "ytapmnacggpcffaa", sum := "8d8966d4ed499f852c2002694cb324fa089caa53f8a8465e2a63ca52c73aa23e", func := "cellaret/cellaretlaw33.ViewLooks", spec := "viewLooks", unfollowed := true, recurses := true, apart := false }
def ViewLooksSaid : Prop := viewLooksRow.holds Try.pinned (OpenSpec.ofChange viewLooksSpec)

/-- ITS FALSE NEIGHBOUR: 'it returns false'. Refute it at one input. -/
def viewLooksWrong : ChangeSpec := { name := "viewLooks", fn := fun _ => fun
  | [d1, d2] => { results := [.lit (.bool false)], args := [d1, d2] }
  | _ => none }
def ViewLooksWrongFalsely : Prop := viewLooksRow.holds Try.pinned (OpenSpec.ofChange viewLooksWrong)

/-- 'cellaretlaw33.ViewDiffers': WHATEVER THE INPUT: true; the input reads as it did. -/
def viewDiffersSpec : ChangeSpec := { name := "viewDiffers", fn := fun _ => fun
  | [d] => { results := [.lit (.bool true)], args := [d] }
  | _ => none }
def viewDiffersRow : OpenClaim := { program := "ytapmnacggpcffaa", sum := "8d8966d4ed499f852c2002694cb324fa089caa53f8a8465e2a63ca52c73aa23e", func := "cellaret/cellaretlaw33.ViewDiffers", spec := "viewDiffers", unfollowed := true, recurses := true, apart := false }
def ViewDiffersSaid : Prop := viewDiffersRow.holds Try.pinned (OpenSpec.ofChange viewDiffersSpec)

/-- ITS FALSE NEIGHBOUR: 'it returns false'. Refute it at one input. -/
def viewDiffersWrong : ChangeSpec := { name := "viewDiffers", fn := fun _ => fun
  | [d] => { results := [.lit (.bool false)], args := [d] }
  | _ => none }
def ViewDiffersWrongFalsely : Prop := viewDiffersRow.holds Try.pinned (OpenSpec.ofChange viewDiffersWrong)

/-- 'cellaretlaw33.ViewFresh': WHATEVER THE INPUT: true; the input reads as it did. -/
def viewFreshSpec : ChangeSpec := { name := "viewFresh", fn := fun _ => fun
  | [d1, d2] => { results := [.lit (.bool true)], args := [d1, d2] }
  | _ => none }
def viewFreshRow : OpenClaim := { program := "ytapmnacggpcffaa", sum := "8d8966d4ed499f852c2002694cb324fa089caa53f8a8465e2a63ca52c73aa23e", func := "cellaret/cellaretlaw33.ViewFresh", spec := "viewFresh", unfollowed := true, recurses := true, apart := false }
def ViewFreshSaid : Prop := viewFreshRow.holds Try.pinned (OpenSpec.ofChange viewFreshSpec)

/-- ITS FALSE NEIGHBOUR: 'it returns false'. Refute it at one input. -/
def viewFreshWrong : ChangeSpec := { name := "viewFresh", fn := fun _ => fun
  | [d1, d2] => { results := [.lit (.bool false)], args := [d1, d2] }
  | _ => none }
def ViewFreshWrongFalsely : Prop := viewFreshRow.holds Try.pinned (OpenSpec.ofChange viewFreshWrong)

/- THE SECOND FORM. 'bulk': how many values and letters a reading holds, each counted each time it is reached (what is shared counts as often as it is met; a slice's spare places count too). A statement '..UptoSaid' is the law's where the arguments, and the package variables that the reading takes, are together of bulk at most 1048576: NARROWER than '..Said'. Prove '..Said' where nothing that the law and all that it calls make is longer than what came in: it says more and counts as full. Else prove '..UptoSaid'. A law counts once. -/
mutual
def uptoBulk {H : Type} : DataW H → Nat
  | .lit (.string bytes) => bytes.length + 1
  | .lit _ => 1
  | .nil => 1
  | .ptr d => uptoBulk d + 1
  | .slice elems spare => uptoBulkAll elems + uptoBulkAll spare + 1
  | .agg parts => uptoBulkAll parts + 1
  | .iface _ d => uptoBulk d + 1
  | .map entries => uptoBulkEntries entries + 1
  | .held _ => 1
def uptoBulkAll {H : Type} : List (DataW H) → Nat
  | [] => 0
  | d :: r => uptoBulk d + uptoBulkAll r
def uptoBulkEntries {H : Type} : List (Lit × DataW H) → Nat
  | [] => 0
  | x :: r => uptoBulkEntry x + uptoBulkEntries r
def uptoBulkEntry {H : Type} : Lit × DataW H → Nat
  | (.string bytes, d) => bytes.length + uptoBulk d + 1
  | (_, d) => uptoBulk d + 1
 end
def uptoSmall : (H : Type) → List (DataW H) → Bool := fun _ ds => decide (uptoBulkAll ds ≤ 1048576)
def OpenSpec.upto (s : _root_.Go.ChangeSpec) : _root_.Go.OpenSpec := { _root_.Go.OpenSpec.ofChange s with cond := some uptoSmall }

/-- 'cellaretlaw33.ViewLooks', WHERE WHAT IT READS IS OF BULK AT MOST 1048576: true; the input reads as it did. -/
def viewLooksUptoRow : OpenClaim := { program := "ytapmnacggpcffaa", sum := "8d8966d4ed499f852c2002694cb324fa089caa53f8a8465e2a63ca52c73aa23e", func := "cellaret/cellaretlaw33.ViewLooks", spec := "viewLooks", unfollowed := true, recurses := true, apart := false, narrowed := true }
def ViewLooksUptoSaid : Prop := viewLooksUptoRow.holds Try.pinned (OpenSpec.upto viewLooksSpec)

/-- 'cellaretlaw33.ViewDiffers', WHERE WHAT IT READS IS OF BULK AT MOST 1048576: true; the input reads as it did. -/
def viewDiffersUptoRow : OpenClaim := { program := "ytapmnacggpcffaa", sum := "8d8966d4ed499f852c2002694cb324fa089caa53f8a8465e2a63ca52c73aa23e", func := "cellaret/cellaretlaw33.ViewDiffers", spec := "viewDiffers", unfollowed := true, recurses := true, apart := false, narrowed := true }
def ViewDiffersUptoSaid : Prop := viewDiffersUptoRow.holds Try.pinned (OpenSpec.upto viewDiffersSpec)

/-- 'cellaretlaw33.ViewFresh', WHERE WHAT IT READS IS OF BULK AT MOST 1048576: true; the input reads as it did. -/
def viewFreshUptoRow : OpenClaim := { program := "ytapmnacggpcffaa", sum := "8d8966d4ed499f852c2002694cb324fa089caa53f8a8465e2a63ca52c73aa23e", func := "cellaret/cellaretlaw33.ViewFresh", spec := "viewFresh", unfollowed := true, recurses := true, apart := false, narrowed := true }
def ViewFreshUptoSaid : Prop := viewFreshUptoRow.holds Try.pinned (OpenSpec.upto viewFreshSpec)

end Rows
end Go.Proofs.Ytapmnacggpcffaa
