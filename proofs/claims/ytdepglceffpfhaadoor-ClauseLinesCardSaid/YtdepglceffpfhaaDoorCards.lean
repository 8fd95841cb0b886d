/-
  DERIVED. GIVEN WITH THE SEED: THE CARDS: each row of YtdepglceffpfhaaDoorRows.lean that lists a variable, with what it lists TIED to the program's text (the seventh form; the later family's looks); each row that meets fmt, with fmt's text TOLD by the authors' own Lean function (tested against real Go, not proved from fmt's source: count such statements apart). THE CARD IS WHAT COUNTS. Prove the row's statement (the work); the ties are given (YtdepglceffpfhaaDoorTie.lean); close each card by the builder's one call (the guide's Derived/Test/ToyasCard.lean, 'card_holds'). Laid BY PROGRAM, IN A SANDBOX (cutbox-door.mjs). By AI agents, Wed Nov 11 2026. No macro, syntax, notation, axiom, sorry.
-/
import Derived.Test.YtdepglceffpfhaaDoorRows
import GoSem.ClaimSeven
namespace Go.Proofs.YtdepglceffpfhaaDoor
namespace Rows

/-- THE TIED CARD OF 'haulierlaw15.ClauseNames'. -/
def clauseNamesCard : Claim7 := { stood := { row := clauseNamesRow, standIns := [], harness := (true, "e6f036536c7c2bbc2ab47f94eae5fc9bd94a268ffc9ea2deb99860ea3d903814"), looks := true }, kinds := [], alts := [], laidByText := true, laidKinds := [.data, .data, .data, .data], laidTests := true, laidLooks := .later }
def ClauseNamesCardSaid : Prop := Claim7.holds Tryd.pinned (.plain (OpenSpec.ofChange clauseNamesSpec)) clauseNamesCard

/-- THE TIED CARD OF 'haulierlaw15.ClauseSorts'. -/
def clauseSortsCard : Claim7 := { stood := { row := clauseSortsRow, standIns := [], harness := (true, "e6f036536c7c2bbc2ab47f94eae5fc9bd94a268ffc9ea2deb99860ea3d903814"), looks := true }, kinds := [], alts := [], laidByText := true, laidKinds := [.data, .data, .data, .data], laidTests := true, laidLooks := .later }
def ClauseSortsCardSaid : Prop := Claim7.holds Tryd.pinned (.plain (OpenSpec.ofChange clauseSortsSpec)) clauseSortsCard

/-- THE TIED CARD OF 'haulierlaw15.ClauseLines'. -/
def clauseLinesCard : Claim7 := { stood := { row := clauseLinesRow, standIns := [], harness := (true, "e6f036536c7c2bbc2ab47f94eae5fc9bd94a268ffc9ea2deb99860ea3d903814"), looks := true }, kinds := [], alts := [], laidByText := true, laidKinds := [.data, .data, .data, .sentinel, .sentinel, .data], laidTests := true, laidLooks := .later }
def ClauseLinesCardSaid : Prop := Claim7.holds Tryd.pinned (.plain (OpenSpec.ofChange clauseLinesSpec)) clauseLinesCard

/-- THE SECOND FORM's CARD OF 'haulierlaw15.ClauseNames'. -/
def clauseNamesUptoCard : Claim7 := { stood := { row := clauseNamesUptoRow, standIns := [], harness := (true, "e6f036536c7c2bbc2ab47f94eae5fc9bd94a268ffc9ea2deb99860ea3d903814"), looks := true }, kinds := [], alts := [], laidByText := true, laidKinds := [.data, .data, .data, .data], laidTests := true, laidLooks := .later }
def ClauseNamesUptoCardSaid : Prop := Claim7.holds Tryd.pinned (.plain (OpenSpec.upto clauseNamesSpec)) clauseNamesUptoCard

/-- THE SECOND FORM's CARD OF 'haulierlaw15.ClauseSorts'. -/
def clauseSortsUptoCard : Claim7 := { stood := { row := clauseSortsUptoRow, standIns := [], harness := (true, "e6f036536c7c2bbc2ab47f94eae5fc9bd94a268ffc9ea2deb99860ea3d903814"), looks := true }, kinds := [], alts := [], laidByText := true, laidKinds := [.data, .data, .data, .data], laidTests := true, laidLooks := .later }
def ClauseSortsUptoCardSaid : Prop := Claim7.holds Tryd.pinned (.plain (OpenSpec.upto clauseSortsSpec)) clauseSortsUptoCard

/-- THE SECOND FORM's CARD OF 'haulierlaw15.ClauseLines'. -/
def clauseLinesUptoCard : Claim7 := { stood := { row := clauseLinesUptoRow, standIns := [], harness := (true, "e6f036536c7c2bbc2ab47f94eae5fc9bd94a268ffc9ea2deb99860ea3d903814"), looks := true }, kinds := [], alts := [], laidByText := true, laidKinds := [.data, .data, .data, .sentinel, .sentinel, .data], laidTests := true, laidLooks := .later }
def ClauseLinesUptoCardSaid : Prop := Claim7.holds Tryd.pinned (.plain (OpenSpec.upto clauseLinesSpec)) clauseLinesUptoCard
end Rows
end Go.Proofs.YtdepglceffpfhaaDoor
