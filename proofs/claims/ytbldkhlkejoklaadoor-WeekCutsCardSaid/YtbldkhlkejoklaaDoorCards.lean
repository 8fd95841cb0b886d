/-
  DERIVED. GIVEN WITH THE SEED: THE CARDS: each row of YtbldkhlkejoklaaDoorRows.lean that lists a variable, with what it lists TIED to the program's text (the seventh form; the later family's looks); each row that meets fmt, with fmt's text TOLD by the authors' own Lean function (tested against real Go, not proved from fmt's source: count such statements apart). THE CARD IS WHAT COUNTS. Prove the row's statement (the work); the ties are given (YtbldkhlkejoklaaDoorTie.lean); close each card by the builder's one call (the guide's Derived/Test/ToyasCard.lean, 'card_holds'). Laid BY PROGRAM, IN A SANDBOX (cutbox-door.mjs). By AI agents, Wed Nov 11 2026. No macro, syntax, notation, axiom, sorry.
-/
import Derived.Test.YtbldkhlkejoklaaDoorRows
import GoSem.ClaimSeven
namespace Go.Proofs.YtbldkhlkejoklaaDoor
namespace Rows

/-- THE TIED CARD OF 'haulierlaw04.WeekOf'. -/
def weekOfCard : Claim7 := { stood := { row := weekOfRow, standIns := [], harness := (true, "9804a98e0ce59b7ed24d26cef4ccd9736d7692813f60c8fdd8b2bf562f2c6fdd"), looks := false }, kinds := [], alts := [], laidByText := true, laidKinds := [.data, .data, .data, .data], laidTests := true, laidLooks := .later }
def WeekOfCardSaid : Prop := Claim7.holds Tryd.pinned (.plain (OpenSpec.ofChange weekOfSpec)) weekOfCard

/-- THE TIED CARD OF 'haulierlaw04.WeekCuts'. -/
def weekCutsCard : Claim7 := { stood := { row := weekCutsRow, standIns := [], harness := (true, "9804a98e0ce59b7ed24d26cef4ccd9736d7692813f60c8fdd8b2bf562f2c6fdd"), looks := false }, kinds := [], alts := [], laidByText := true, laidKinds := [.data, .data, .data, .data], laidTests := true, laidLooks := .later }
def WeekCutsCardSaid : Prop := Claim7.holds Tryd.pinned (.plain (OpenSpec.ofChange weekCutsSpec)) weekCutsCard

/-- THE TIED CARD OF 'haulierlaw04.WeekNames'. -/
def weekNamesCard : Claim7 := { stood := { row := weekNamesRow, standIns := [], harness := (true, "9804a98e0ce59b7ed24d26cef4ccd9736d7692813f60c8fdd8b2bf562f2c6fdd"), looks := false }, kinds := [], alts := [], laidByText := true, laidKinds := [.data, .data, .data, .data], laidTests := true, laidLooks := .later }
def WeekNamesCardSaid : Prop := Claim7.holds Tryd.pinned (.plain (OpenSpec.ofChange weekNamesSpec)) weekNamesCard

/-- THE SECOND FORM's CARD OF 'haulierlaw04.WeekOf'. -/
def weekOfUptoCard : Claim7 := { stood := { row := weekOfUptoRow, standIns := [], harness := (true, "9804a98e0ce59b7ed24d26cef4ccd9736d7692813f60c8fdd8b2bf562f2c6fdd"), looks := false }, kinds := [], alts := [], laidByText := true, laidKinds := [.data, .data, .data, .data], laidTests := true, laidLooks := .later }
def WeekOfUptoCardSaid : Prop := Claim7.holds Tryd.pinned (.plain (OpenSpec.upto weekOfSpec)) weekOfUptoCard

/-- THE SECOND FORM's CARD OF 'haulierlaw04.WeekCuts'. -/
def weekCutsUptoCard : Claim7 := { stood := { row := weekCutsUptoRow, standIns := [], harness := (true, "9804a98e0ce59b7ed24d26cef4ccd9736d7692813f60c8fdd8b2bf562f2c6fdd"), looks := false }, kinds := [], alts := [], laidByText := true, laidKinds := [.data, .data, .data, .data], laidTests := true, laidLooks := .later }
def WeekCutsUptoCardSaid : Prop := Claim7.holds Tryd.pinned (.plain (OpenSpec.upto weekCutsSpec)) weekCutsUptoCard

/-- THE SECOND FORM's CARD OF 'haulierlaw04.WeekNames'. -/
def weekNamesUptoCard : Claim7 := { stood := { row := weekNamesUptoRow, standIns := [], harness := (true, "9804a98e0ce59b7ed24d26cef4ccd9736d7692813f60c8fdd8b2bf562f2c6fdd"), looks := false }, kinds := [], alts := [], laidByText := true, laidKinds := [.data, .data, .data, .data], laidTests := true, laidLooks := .later }
def WeekNamesUptoCardSaid : Prop := Claim7.holds Tryd.pinned (.plain (OpenSpec.upto weekNamesSpec)) weekNamesUptoCard
end Rows
end Go.Proofs.YtbldkhlkejoklaaDoor
