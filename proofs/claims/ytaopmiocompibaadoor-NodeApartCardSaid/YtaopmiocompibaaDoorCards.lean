/-
  DERIVED. GIVEN WITH THE SEED: THE CARDS: each row of YtaopmiocompibaaDoorRows.lean that lists a variable, with what it lists TIED to the program's text (the seventh form; the later family's looks); each row that meets fmt, with fmt's text TOLD by the authors' own Lean function (tested against real Go, not proved from fmt's source: count such statements apart). THE CARD IS WHAT COUNTS. Prove the row's statement (the work); the ties are given (YtaopmiocompibaaDoorTie.lean); close each card by the builder's one call (the guide's Derived/Test/ToyasCard.lean, 'card_holds'). Laid BY PROGRAM, IN A SANDBOX (cutbox-door.mjs). By AI agents, Wed Nov 11 2026. No macro, syntax, notation, axiom, sorry.
-/
import Derived.Test.YtaopmiocompibaaDoorRows
import GoSem.ClaimSeven
namespace Go.Proofs.YtaopmiocompibaaDoor
namespace Rows

/-- THE TIED CARD OF 'cellaretlaw17.NodePaths'. -/
def nodePathsCard : Claim7 := { stood := { row := nodePathsRow, standIns := [], harness := (true, "bd2d91b93d31a84d1b52f204fb5ff5216abec1170d2c7f0e12b9d3a71de5c775"), looks := false }, kinds := [], alts := [], laidByText := true, laidKinds := [.data, .data], laidTests := true, laidLooks := .later }
def NodePathsCardSaid : Prop := Claim7.holds Tryd.pinned (.plain (OpenSpec.ofChange nodePathsSpec)) nodePathsCard

/-- THE TIED CARD OF 'cellaretlaw17.NodeSums'. -/
def nodeSumsCard : Claim7 := { stood := { row := nodeSumsRow, standIns := [], harness := (true, "bd2d91b93d31a84d1b52f204fb5ff5216abec1170d2c7f0e12b9d3a71de5c775"), looks := false }, kinds := [], alts := [], laidByText := true, laidKinds := [.data, .data], laidTests := true, laidLooks := .later }
def NodeSumsCardSaid : Prop := Claim7.holds Tryd.pinned (.plain (OpenSpec.ofChange nodeSumsSpec)) nodeSumsCard

/-- THE TIED CARD OF 'cellaretlaw17.NodeSplits'. -/
def nodeSplitsCard : Claim7 := { stood := { row := nodeSplitsRow, standIns := [], harness := (true, "bd2d91b93d31a84d1b52f204fb5ff5216abec1170d2c7f0e12b9d3a71de5c775"), looks := false }, kinds := [], alts := [], laidByText := true, laidKinds := [.data, .data], laidTests := true, laidLooks := .later }
def NodeSplitsCardSaid : Prop := Claim7.holds Tryd.pinned (.plain (OpenSpec.ofChange nodeSplitsSpec)) nodeSplitsCard

/-- THE TIED CARD OF 'cellaretlaw17.NodeRoots'. -/
def nodeRootsCard : Claim7 := { stood := { row := nodeRootsRow, standIns := [], harness := (true, "bd2d91b93d31a84d1b52f204fb5ff5216abec1170d2c7f0e12b9d3a71de5c775"), looks := false }, kinds := [], alts := [], laidByText := true, laidKinds := [.data, .data], laidTests := true, laidLooks := .later }
def NodeRootsCardSaid : Prop := Claim7.holds Tryd.pinned (.plain (OpenSpec.ofChange nodeRootsSpec)) nodeRootsCard

/-- THE TIED CARD OF 'cellaretlaw17.NodeApart'. -/
def nodeApartCard : Claim7 := { stood := { row := nodeApartRow, standIns := [], harness := (true, "bd2d91b93d31a84d1b52f204fb5ff5216abec1170d2c7f0e12b9d3a71de5c775"), looks := false }, kinds := [], alts := [], laidByText := true, laidKinds := [.data, .data], laidTests := true, laidLooks := .later }
def NodeApartCardSaid : Prop := Claim7.holds Tryd.pinned (.plain (OpenSpec.ofChange nodeApartSpec)) nodeApartCard

/-- THE TIED CARD OF 'cellaretlaw17.NodeBares'. -/
def nodeBaresCard : Claim7 := { stood := { row := nodeBaresRow, standIns := [], harness := (true, "bd2d91b93d31a84d1b52f204fb5ff5216abec1170d2c7f0e12b9d3a71de5c775"), looks := false }, kinds := [], alts := [], laidByText := true, laidKinds := [.data, .data], laidTests := true, laidLooks := .later }
def NodeBaresCardSaid : Prop := Claim7.holds Tryd.pinned (.plain (OpenSpec.ofChange nodeBaresSpec)) nodeBaresCard

/-- THE SECOND FORM's CARD OF 'cellaretlaw17.NodePaths'. -/
def nodePathsUptoCard : Claim7 := { stood := { row := nodePathsUptoRow, standIns := [], harness := (true, "bd2d91b93d31a84d1b52f204fb5ff5216abec1170d2c7f0e12b9d3a71de5c775"), looks := false }, kinds := [], alts := [], laidByText := true, laidKinds := [.data, .data], laidTests := true, laidLooks := .later }
def NodePathsUptoCardSaid : Prop := Claim7.holds Tryd.pinned (.plain (OpenSpec.upto nodePathsSpec)) nodePathsUptoCard

/-- THE SECOND FORM's CARD OF 'cellaretlaw17.NodeSums'. -/
def nodeSumsUptoCard : Claim7 := { stood := { row := nodeSumsUptoRow, standIns := [], harness := (true, "bd2d91b93d31a84d1b52f204fb5ff5216abec1170d2c7f0e12b9d3a71de5c775"), looks := false }, kinds := [], alts := [], laidByText := true, laidKinds := [.data, .data], laidTests := true, laidLooks := .later }
def NodeSumsUptoCardSaid : Prop := Claim7.holds Tryd.pinned (.plain (OpenSpec.upto nodeSumsSpec)) nodeSumsUptoCard

/-- THE SECOND FORM's CARD OF 'cellaretlaw17.NodeSplits'. -/
def nodeSplitsUptoCard : Claim7 := { stood := { row := nodeSplitsUptoRow, standIns := [], harness := (true, "bd2d91b93d31a84d1b52f204fb5ff5216abec1170d2c7f0e12b9d3a71de5c775"), looks := false }, kinds := [], alts := [], laidByText := true, laidKinds := [.data, .data], laidTests := true, laidLooks := .later }
def NodeSplitsUptoCardSaid : Prop := Claim7.holds Tryd.pinned (.plain (OpenSpec.upto nodeSplitsSpec)) nodeSplitsUptoCard

/-- THE SECOND FORM's CARD OF 'cellaretlaw17.NodeRoots'. -/
def nodeRootsUptoCard : Claim7 := { stood := { row := nodeRootsUptoRow, standIns := [], harness := (true, "bd2d91b93d31a84d1b52f204fb5ff5216abec1170d2c7f0e12b9d3a71de5c775"), looks := false }, kinds := [], alts := [], laidByText := true, laidKinds := [.data, .data], laidTests := true, laidLooks := .later }
def NodeRootsUptoCardSaid : Prop := Claim7.holds Tryd.pinned (.plain (OpenSpec.upto nodeRootsSpec)) nodeRootsUptoCard

/-- THE SECOND FORM's CARD OF 'cellaretlaw17.NodeApart'. -/
def nodeApartUptoCard : Claim7 := { stood := { row := nodeApartUptoRow, standIns := [], harness := (true, "bd2d91b93d31a84d1b52f204fb5ff5216abec1170d2c7f0e12b9d3a71de5c775"), looks := false }, kinds := [], alts := [], laidByText := true, laidKinds := [.data, .data], laidTests := true, laidLooks := .later }
def NodeApartUptoCardSaid : Prop := Claim7.holds Tryd.pinned (.plain (OpenSpec.upto nodeApartSpec)) nodeApartUptoCard

/-- THE SECOND FORM's CARD OF 'cellaretlaw17.NodeBares'. -/
def nodeBaresUptoCard : Claim7 := { stood := { row := nodeBaresUptoRow, standIns := [], harness := (true, "bd2d91b93d31a84d1b52f204fb5ff5216abec1170d2c7f0e12b9d3a71de5c775"), looks := false }, kinds := [], alts := [], laidByText := true, laidKinds := [.data, .data], laidTests := true, laidLooks := .later }
def NodeBaresUptoCardSaid : Prop := Claim7.holds Tryd.pinned (.plain (OpenSpec.upto nodeBaresSpec)) nodeBaresUptoCard
end Rows
end Go.Proofs.YtaopmiocompibaaDoor
