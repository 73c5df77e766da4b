/-
  DERIVED. GIVEN WITH THE SEED: THE CARDS: each row of YtpoffbbapefkcaaDoorRows.lean that lists a variable, with what it lists TIED to the program's text (the seventh form; the later family's looks); each row that meets fmt, with fmt's text TOLD by the authors' own Lean function (tested against real Go, not proved from fmt's source: count such statements apart). THE CARD IS WHAT COUNTS. Prove the row's statement (the work); the ties are given (YtpoffbbapefkcaaDoorTie.lean); close each card by the builder's one call (the guide's Derived/Test/ToyasCard.lean, 'card_holds'). Laid BY PROGRAM, IN A SANDBOX (cutbox-door.mjs). By AI agents, Wed Nov 11 2026. No macro, syntax, notation, axiom, sorry.
-/
import Derived.Test.YtpoffbbapefkcaaDoorRows
import GoSem.ClaimSeven
namespace Go.Proofs.YtpoffbbapefkcaaDoor
namespace Rows

/-- THE TIED CARD OF 'cellaretlaw06.OracleKeeps'. -/
def oracleKeepsCard : Claim7 := { stood := { row := oracleKeepsRow, standIns := [], harness := (true, "e1869738453599ae850c767010654ecdff7215553896cae23750b437eb89ebad"), looks := false }, kinds := [], alts := [], laidByText := true, laidKinds := [.data, .data], laidTests := true, laidLooks := .later }
def OracleKeepsCardSaid : Prop := Claim7.holds Tryd.pinned (.plain (OpenSpec.ofChange oracleKeepsSpec)) oracleKeepsCard

/-- THE TIED CARD OF 'cellaretlaw06.OraclePairs'. -/
def oraclePairsCard : Claim7 := { stood := { row := oraclePairsRow, standIns := [], harness := (true, "e1869738453599ae850c767010654ecdff7215553896cae23750b437eb89ebad"), looks := false }, kinds := [], alts := [], laidByText := true, laidKinds := [.data, .data], laidTests := true, laidLooks := .later }
def OraclePairsCardSaid : Prop := Claim7.holds Tryd.pinned (.plain (OpenSpec.ofChange oraclePairsSpec)) oraclePairsCard

/-- THE TIED CARD OF 'cellaretlaw06.OracleTells'. -/
def oracleTellsCard : Claim7 := { stood := { row := oracleTellsRow, standIns := [], harness := (true, "e1869738453599ae850c767010654ecdff7215553896cae23750b437eb89ebad"), looks := false }, kinds := [], alts := [], laidByText := true, laidKinds := [.data, .data], laidTests := true, laidLooks := .later }
def OracleTellsCardSaid : Prop := Claim7.holds Tryd.pinned (.plain (OpenSpec.ofChange oracleTellsSpec)) oracleTellsCard

/-- THE TIED CARD OF 'cellaretlaw06.OracleNone'. -/
def oracleNoneCard : Claim7 := { stood := { row := oracleNoneRow, standIns := [], harness := (true, "e1869738453599ae850c767010654ecdff7215553896cae23750b437eb89ebad"), looks := false }, kinds := [], alts := [], laidByText := true, laidKinds := [.data, .data], laidTests := true, laidLooks := .later }
def OracleNoneCardSaid : Prop := Claim7.holds Tryd.pinned (.plain (OpenSpec.ofChange oracleNoneSpec)) oracleNoneCard

/-- THE SECOND FORM's CARD OF 'cellaretlaw06.OracleKeeps'. -/
def oracleKeepsUptoCard : Claim7 := { stood := { row := oracleKeepsUptoRow, standIns := [], harness := (true, "e1869738453599ae850c767010654ecdff7215553896cae23750b437eb89ebad"), looks := false }, kinds := [], alts := [], laidByText := true, laidKinds := [.data, .data], laidTests := true, laidLooks := .later }
def OracleKeepsUptoCardSaid : Prop := Claim7.holds Tryd.pinned (.plain (OpenSpec.upto oracleKeepsSpec)) oracleKeepsUptoCard

/-- THE SECOND FORM's CARD OF 'cellaretlaw06.OraclePairs'. -/
def oraclePairsUptoCard : Claim7 := { stood := { row := oraclePairsUptoRow, standIns := [], harness := (true, "e1869738453599ae850c767010654ecdff7215553896cae23750b437eb89ebad"), looks := false }, kinds := [], alts := [], laidByText := true, laidKinds := [.data, .data], laidTests := true, laidLooks := .later }
def OraclePairsUptoCardSaid : Prop := Claim7.holds Tryd.pinned (.plain (OpenSpec.upto oraclePairsSpec)) oraclePairsUptoCard

/-- THE SECOND FORM's CARD OF 'cellaretlaw06.OracleTells'. -/
def oracleTellsUptoCard : Claim7 := { stood := { row := oracleTellsUptoRow, standIns := [], harness := (true, "e1869738453599ae850c767010654ecdff7215553896cae23750b437eb89ebad"), looks := false }, kinds := [], alts := [], laidByText := true, laidKinds := [.data, .data], laidTests := true, laidLooks := .later }
def OracleTellsUptoCardSaid : Prop := Claim7.holds Tryd.pinned (.plain (OpenSpec.upto oracleTellsSpec)) oracleTellsUptoCard

/-- THE SECOND FORM's CARD OF 'cellaretlaw06.OracleNone'. -/
def oracleNoneUptoCard : Claim7 := { stood := { row := oracleNoneUptoRow, standIns := [], harness := (true, "e1869738453599ae850c767010654ecdff7215553896cae23750b437eb89ebad"), looks := false }, kinds := [], alts := [], laidByText := true, laidKinds := [.data, .data], laidTests := true, laidLooks := .later }
def OracleNoneUptoCardSaid : Prop := Claim7.holds Tryd.pinned (.plain (OpenSpec.upto oracleNoneSpec)) oracleNoneUptoCard
end Rows
end Go.Proofs.YtpoffbbapefkcaaDoor
