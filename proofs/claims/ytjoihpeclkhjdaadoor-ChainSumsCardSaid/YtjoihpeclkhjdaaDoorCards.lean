/-
  DERIVED. GIVEN WITH THE SEED: THE CARDS: each row of YtjoihpeclkhjdaaDoorRows.lean that lists a variable, with what it lists TIED to the program's text (the seventh form; the later family's looks); each row that meets fmt, with fmt's text TOLD by the authors' own Lean function (tested against real Go, not proved from fmt's source: count such statements apart). THE CARD IS WHAT COUNTS. Prove the row's statement (the work); the ties are given (YtjoihpeclkhjdaaDoorTie.lean); close each card by the builder's one call (the guide's Derived/Test/ToyasCard.lean, 'card_holds'). Laid BY PROGRAM, IN A SANDBOX (cutbox-door.mjs). By AI agents, Wed Nov 11 2026. No macro, syntax, notation, axiom, sorry.
-/
import Derived.Test.YtjoihpeclkhjdaaDoorRows
import GoSem.ClaimSeven
namespace Go.Proofs.YtjoihpeclkhjdaaDoor
namespace Rows

/-- THE TIED CARD OF 'cellaretlaw14.ChainSums'. -/
def chainSumsCard : Claim7 := { stood := { row := chainSumsRow, standIns := [], harness := (true, "a841d8cdc83aa5fd43359c08a398c0da3865805e1c20d45a491490074863f28a"), looks := false }, kinds := [], alts := [], laidByText := true, laidKinds := [.data, .data], laidTests := true, laidLooks := .later }
def ChainSumsCardSaid : Prop := Claim7.holds Tryd.pinned (.plain (OpenSpec.ofChange chainSumsSpec)) chainSumsCard

/-- THE TIED CARD OF 'cellaretlaw14.ChainNexts'. -/
def chainNextsCard : Claim7 := { stood := { row := chainNextsRow, standIns := [], harness := (true, "a841d8cdc83aa5fd43359c08a398c0da3865805e1c20d45a491490074863f28a"), looks := false }, kinds := [], alts := [], laidByText := true, laidKinds := [.data, .data], laidTests := true, laidLooks := .later }
def ChainNextsCardSaid : Prop := Claim7.holds Tryd.pinned (.plain (OpenSpec.ofChange chainNextsSpec)) chainNextsCard

/-- THE TIED CARD OF 'cellaretlaw14.ChainApart'. -/
def chainApartCard : Claim7 := { stood := { row := chainApartRow, standIns := [], harness := (true, "a841d8cdc83aa5fd43359c08a398c0da3865805e1c20d45a491490074863f28a"), looks := false }, kinds := [], alts := [], laidByText := true, laidKinds := [.data, .data], laidTests := true, laidLooks := .later }
def ChainApartCardSaid : Prop := Claim7.holds Tryd.pinned (.plain (OpenSpec.ofChange chainApartSpec)) chainApartCard

/-- THE SECOND FORM's CARD OF 'cellaretlaw14.ChainSums'. -/
def chainSumsUptoCard : Claim7 := { stood := { row := chainSumsUptoRow, standIns := [], harness := (true, "a841d8cdc83aa5fd43359c08a398c0da3865805e1c20d45a491490074863f28a"), looks := false }, kinds := [], alts := [], laidByText := true, laidKinds := [.data, .data], laidTests := true, laidLooks := .later }
def ChainSumsUptoCardSaid : Prop := Claim7.holds Tryd.pinned (.plain (OpenSpec.upto chainSumsSpec)) chainSumsUptoCard

/-- THE SECOND FORM's CARD OF 'cellaretlaw14.ChainNexts'. -/
def chainNextsUptoCard : Claim7 := { stood := { row := chainNextsUptoRow, standIns := [], harness := (true, "a841d8cdc83aa5fd43359c08a398c0da3865805e1c20d45a491490074863f28a"), looks := false }, kinds := [], alts := [], laidByText := true, laidKinds := [.data, .data], laidTests := true, laidLooks := .later }
def ChainNextsUptoCardSaid : Prop := Claim7.holds Tryd.pinned (.plain (OpenSpec.upto chainNextsSpec)) chainNextsUptoCard

/-- THE SECOND FORM's CARD OF 'cellaretlaw14.ChainApart'. -/
def chainApartUptoCard : Claim7 := { stood := { row := chainApartUptoRow, standIns := [], harness := (true, "a841d8cdc83aa5fd43359c08a398c0da3865805e1c20d45a491490074863f28a"), looks := false }, kinds := [], alts := [], laidByText := true, laidKinds := [.data, .data], laidTests := true, laidLooks := .later }
def ChainApartUptoCardSaid : Prop := Claim7.holds Tryd.pinned (.plain (OpenSpec.upto chainApartSpec)) chainApartUptoCard
end Rows
end Go.Proofs.YtjoihpeclkhjdaaDoor
