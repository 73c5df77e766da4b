/-
  DERIVED. GIVEN WITH THE SEED: THE CARDS: each row of YtaneecmfgfkaaaaDoorRows.lean that lists a variable, with what it lists TIED to the program's text (the seventh form; the later family's looks); each row that meets fmt, with fmt's text TOLD by the authors' own Lean function (tested against real Go, not proved from fmt's source: count such statements apart). THE CARD IS WHAT COUNTS. Prove the row's statement (the work); the ties are given (YtaneecmfgfkaaaaDoorTie.lean); close each card by the builder's one call (the guide's Derived/Test/ToyasCard.lean, 'card_holds'). Laid BY PROGRAM, IN A SANDBOX (cutbox-door.mjs). By AI agents, Wed Nov 11 2026. No macro, syntax, notation, axiom, sorry.
-/
import Derived.Test.YtaneecmfgfkaaaaDoorRows
import GoSem.ClaimSeven
namespace Go.Proofs.YtaneecmfgfkaaaaDoor
namespace Rows

/-- THE TIED CARD OF 'cellaretlaw06.OracleKeeps'. -/
def oracleKeepsCard : Claim7 := { stood := { row := oracleKeepsRow, standIns := [], harness := (true, "48effb29be44610f57205c748db26228f6c8a876fa9c012650f76cad4b22d2e9"), looks := false }, kinds := [], alts := [], laidByText := true, laidKinds := [.data, .data], laidTests := true, laidLooks := .later }
def OracleKeepsCardSaid : Prop := Claim7.holds Tryd.pinned (.plain (OpenSpec.ofChange oracleKeepsSpec)) oracleKeepsCard

/-- THE TIED CARD OF 'cellaretlaw06.OracleTells'. -/
def oracleTellsCard : Claim7 := { stood := { row := oracleTellsRow, standIns := [], harness := (true, "48effb29be44610f57205c748db26228f6c8a876fa9c012650f76cad4b22d2e9"), looks := false }, kinds := [], alts := [], laidByText := true, laidKinds := [.data, .data], laidTests := true, laidLooks := .later }
def OracleTellsCardSaid : Prop := Claim7.holds Tryd.pinned (.plain (OpenSpec.ofChange oracleTellsSpec)) oracleTellsCard

/-- THE TIED CARD OF 'cellaretlaw14.ChainNexts'. -/
def chainNextsCard : Claim7 := { stood := { row := chainNextsRow, standIns := [], harness := (true, "48effb29be44610f57205c748db26228f6c8a876fa9c012650f76cad4b22d2e9"), looks := false }, kinds := [], alts := [], laidByText := true, laidKinds := [.data, .data], laidTests := true, laidLooks := .later }
def ChainNextsCardSaid : Prop := Claim7.holds Tryd.pinned (.plain (OpenSpec.ofChange chainNextsSpec)) chainNextsCard

/-- THE TIED CARD OF 'cellaretlaw14.ChainApart'. -/
def chainApartCard : Claim7 := { stood := { row := chainApartRow, standIns := [], harness := (true, "48effb29be44610f57205c748db26228f6c8a876fa9c012650f76cad4b22d2e9"), looks := false }, kinds := [], alts := [], laidByText := true, laidKinds := [.data, .data], laidTests := true, laidLooks := .later }
def ChainApartCardSaid : Prop := Claim7.holds Tryd.pinned (.plain (OpenSpec.ofChange chainApartSpec)) chainApartCard

/-- THE TIED CARD OF 'cellaretlaw17.NodeRoots'. -/
def nodeRootsCard : Claim7 := { stood := { row := nodeRootsRow, standIns := [], harness := (true, "48effb29be44610f57205c748db26228f6c8a876fa9c012650f76cad4b22d2e9"), looks := false }, kinds := [], alts := [], laidByText := true, laidKinds := [.data, .data], laidTests := true, laidLooks := .later }
def NodeRootsCardSaid : Prop := Claim7.holds Tryd.pinned (.plain (OpenSpec.ofChange nodeRootsSpec)) nodeRootsCard

/-- THE TIED CARD OF 'cellaretlaw17.NodeBares'. -/
def nodeBaresCard : Claim7 := { stood := { row := nodeBaresRow, standIns := [], harness := (true, "48effb29be44610f57205c748db26228f6c8a876fa9c012650f76cad4b22d2e9"), looks := false }, kinds := [], alts := [], laidByText := true, laidKinds := [.data, .data], laidTests := true, laidLooks := .later }
def NodeBaresCardSaid : Prop := Claim7.holds Tryd.pinned (.plain (OpenSpec.ofChange nodeBaresSpec)) nodeBaresCard

/-- THE SECOND FORM's CARD OF 'cellaretlaw06.OracleKeeps'. -/
def oracleKeepsUptoCard : Claim7 := { stood := { row := oracleKeepsUptoRow, standIns := [], harness := (true, "48effb29be44610f57205c748db26228f6c8a876fa9c012650f76cad4b22d2e9"), looks := false }, kinds := [], alts := [], laidByText := true, laidKinds := [.data, .data], laidTests := true, laidLooks := .later }
def OracleKeepsUptoCardSaid : Prop := Claim7.holds Tryd.pinned (.plain (OpenSpec.upto oracleKeepsSpec)) oracleKeepsUptoCard

/-- THE SECOND FORM's CARD OF 'cellaretlaw06.OracleTells'. -/
def oracleTellsUptoCard : Claim7 := { stood := { row := oracleTellsUptoRow, standIns := [], harness := (true, "48effb29be44610f57205c748db26228f6c8a876fa9c012650f76cad4b22d2e9"), looks := false }, kinds := [], alts := [], laidByText := true, laidKinds := [.data, .data], laidTests := true, laidLooks := .later }
def OracleTellsUptoCardSaid : Prop := Claim7.holds Tryd.pinned (.plain (OpenSpec.upto oracleTellsSpec)) oracleTellsUptoCard

/-- THE SECOND FORM's CARD OF 'cellaretlaw14.ChainNexts'. -/
def chainNextsUptoCard : Claim7 := { stood := { row := chainNextsUptoRow, standIns := [], harness := (true, "48effb29be44610f57205c748db26228f6c8a876fa9c012650f76cad4b22d2e9"), looks := false }, kinds := [], alts := [], laidByText := true, laidKinds := [.data, .data], laidTests := true, laidLooks := .later }
def ChainNextsUptoCardSaid : Prop := Claim7.holds Tryd.pinned (.plain (OpenSpec.upto chainNextsSpec)) chainNextsUptoCard

/-- THE SECOND FORM's CARD OF 'cellaretlaw14.ChainApart'. -/
def chainApartUptoCard : Claim7 := { stood := { row := chainApartUptoRow, standIns := [], harness := (true, "48effb29be44610f57205c748db26228f6c8a876fa9c012650f76cad4b22d2e9"), looks := false }, kinds := [], alts := [], laidByText := true, laidKinds := [.data, .data], laidTests := true, laidLooks := .later }
def ChainApartUptoCardSaid : Prop := Claim7.holds Tryd.pinned (.plain (OpenSpec.upto chainApartSpec)) chainApartUptoCard

/-- THE SECOND FORM's CARD OF 'cellaretlaw17.NodeRoots'. -/
def nodeRootsUptoCard : Claim7 := { stood := { row := nodeRootsUptoRow, standIns := [], harness := (true, "48effb29be44610f57205c748db26228f6c8a876fa9c012650f76cad4b22d2e9"), looks := false }, kinds := [], alts := [], laidByText := true, laidKinds := [.data, .data], laidTests := true, laidLooks := .later }
def NodeRootsUptoCardSaid : Prop := Claim7.holds Tryd.pinned (.plain (OpenSpec.upto nodeRootsSpec)) nodeRootsUptoCard

/-- THE SECOND FORM's CARD OF 'cellaretlaw17.NodeBares'. -/
def nodeBaresUptoCard : Claim7 := { stood := { row := nodeBaresUptoRow, standIns := [], harness := (true, "48effb29be44610f57205c748db26228f6c8a876fa9c012650f76cad4b22d2e9"), looks := false }, kinds := [], alts := [], laidByText := true, laidKinds := [.data, .data], laidTests := true, laidLooks := .later }
def NodeBaresUptoCardSaid : Prop := Claim7.holds Tryd.pinned (.plain (OpenSpec.upto nodeBaresSpec)) nodeBaresUptoCard
end Rows
end Go.Proofs.YtaneecmfgfkaaaaDoor
