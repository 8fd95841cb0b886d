/-
  DERIVED. GIVEN WITH THE SEED: THE CARDS: each row of YtiamnbddbmgffaaGreatDoorRows.lean that lists a variable, with what it lists TIED to the program's text (the seventh form; the later family's looks); each row that meets fmt, with fmt's text TOLD by the authors' own Lean function (tested against real Go, not proved from fmt's source: count such statements apart). THE CARD IS WHAT COUNTS. Prove the row's statement (the work); the ties are given (YtiamnbddbmgffaaGreatDoorTie.lean); close each card by the builder's one call (the guide's Derived/Test/ToyasCard.lean, 'card_holds'). Laid BY PROGRAM, IN A SANDBOX (cutbox-door.mjs). By AI agents, Wed Nov 11 2026. No macro, syntax, notation, axiom, sorry.
-/
import Derived.Test.YtiamnbddbmgffaaGreatDoorRows
import GoSem.ClaimSeven
namespace Go.Proofs.YtiamnbddbmgffaaGreatDoor
namespace Rows

/-- THE TIED CARD OF 'haulierlaw22.VerdictAudits'. -/
def verdictAuditsCard : Claim7 := { stood := { row := verdictAuditsRow, standIns := [], harness := (true, "4833ef2be4193f542d122e8d90367154f567e450675fed1b3be2166bb4aebadf"), looks := false }, kinds := [], alts := [], laidByText := true, laidKinds := [.data, .data, .data, .data], laidTests := true, laidLooks := .later }
def VerdictAuditsCardSaid : Prop := Claim7.holds Tryz.pinned (.plain (OpenSpec.ofChange verdictAuditsSpec)) verdictAuditsCard

/-- THE TIED CARD OF 'haulierlaw22.VerdictAll'. -/
def verdictAllCard : Claim7 := { stood := { row := verdictAllRow, standIns := [], harness := (true, "4833ef2be4193f542d122e8d90367154f567e450675fed1b3be2166bb4aebadf"), looks := false }, kinds := [], alts := [], laidByText := true, laidKinds := [.data, .data, .data, .data], laidTests := true, laidLooks := .later }
def VerdictAllCardSaid : Prop := Claim7.holds Tryz.pinned (.plain (OpenSpec.ofChange verdictAllSpec)) verdictAllCard

/-- THE TIED CARD OF 'haulierlaw22.VerdictRising'. -/
def verdictRisingCard : Claim7 := { stood := { row := verdictRisingRow, standIns := [], harness := (true, "4833ef2be4193f542d122e8d90367154f567e450675fed1b3be2166bb4aebadf"), looks := false }, kinds := [], alts := [], laidByText := true, laidKinds := [.data, .data, .data, .data], laidTests := true, laidLooks := .later }
def VerdictRisingCardSaid : Prop := Claim7.holds Tryz.pinned (.plain (OpenSpec.ofChange verdictRisingSpec)) verdictRisingCard

/-- THE SECOND FORM's CARD OF 'haulierlaw22.VerdictAudits'. -/
def verdictAuditsUptoCard : Claim7 := { stood := { row := verdictAuditsUptoRow, standIns := [], harness := (true, "4833ef2be4193f542d122e8d90367154f567e450675fed1b3be2166bb4aebadf"), looks := false }, kinds := [], alts := [], laidByText := true, laidKinds := [.data, .data, .data, .data], laidTests := true, laidLooks := .later }
def VerdictAuditsUptoCardSaid : Prop := Claim7.holds Tryz.pinned (.plain (OpenSpec.upto verdictAuditsSpec)) verdictAuditsUptoCard

/-- THE SECOND FORM's CARD OF 'haulierlaw22.VerdictAll'. -/
def verdictAllUptoCard : Claim7 := { stood := { row := verdictAllUptoRow, standIns := [], harness := (true, "4833ef2be4193f542d122e8d90367154f567e450675fed1b3be2166bb4aebadf"), looks := false }, kinds := [], alts := [], laidByText := true, laidKinds := [.data, .data, .data, .data], laidTests := true, laidLooks := .later }
def VerdictAllUptoCardSaid : Prop := Claim7.holds Tryz.pinned (.plain (OpenSpec.upto verdictAllSpec)) verdictAllUptoCard

/-- THE SECOND FORM's CARD OF 'haulierlaw22.VerdictRising'. -/
def verdictRisingUptoCard : Claim7 := { stood := { row := verdictRisingUptoRow, standIns := [], harness := (true, "4833ef2be4193f542d122e8d90367154f567e450675fed1b3be2166bb4aebadf"), looks := false }, kinds := [], alts := [], laidByText := true, laidKinds := [.data, .data, .data, .data], laidTests := true, laidLooks := .later }
def VerdictRisingUptoCardSaid : Prop := Claim7.holds Tryz.pinned (.plain (OpenSpec.upto verdictRisingSpec)) verdictRisingUptoCard
end Rows
end Go.Proofs.YtiamnbddbmgffaaGreatDoor
