/-
  DERIVED. GIVEN WITH THE SEED: THE CARDS: each row of YtjpkcgepdfpbnaaGreatDoorRows.lean that lists a variable, with what it lists TIED to the program's text (the seventh form; the later family's looks); each row that meets fmt, with fmt's text TOLD by the authors' own Lean function (tested against real Go, not proved from fmt's source: count such statements apart). THE CARD IS WHAT COUNTS. Prove the row's statement (the work); the ties are given (YtjpkcgepdfpbnaaGreatDoorTie.lean); close each card by the builder's one call (the guide's Derived/Test/ToyasCard.lean, 'card_holds'). Laid BY PROGRAM, IN A SANDBOX (cutbox-door.mjs). By AI agents, Wed Nov 11 2026. No macro, syntax, notation, axiom, sorry.
-/
import Derived.Test.YtjpkcgepdfpbnaaGreatDoorRows
import GoSem.ClaimSeven
namespace Go.Proofs.YtjpkcgepdfpbnaaGreatDoor
namespace Rows

/-- THE TIED CARD OF 'frustumlaw18.ParserTotal'. -/
def parserTotalCard : Claim7 := { stood := { row := parserTotalRow, standIns := [], harness := (true, "2323a726ebeb896d539f74e6d4bfdebc62ef3abaf5e3efef684d5bdd4a46d116"), looks := true }, kinds := [], alts := [], laidByText := true, laidKinds := [.data, .data, .data, .sentinel, .sentinel], laidTests := true, laidLooks := .later }
def ParserTotalCardSaid : Prop := Claim7.holds Tryz.pinned (.plain (OpenSpec.ofChange parserTotalSpec)) parserTotalCard

/-- THE TIED CARD OF 'frustumlaw18.ParserExpressions'. -/
def parserExpressionsCard : Claim7 := { stood := { row := parserExpressionsRow, standIns := [], harness := (true, "2323a726ebeb896d539f74e6d4bfdebc62ef3abaf5e3efef684d5bdd4a46d116"), looks := true }, kinds := [], alts := [], laidByText := true, laidKinds := [.data, .data, .data, .sentinel, .sentinel], laidTests := true, laidLooks := .later }
def ParserExpressionsCardSaid : Prop := Claim7.holds Tryz.pinned (.plain (OpenSpec.ofChange parserExpressionsSpec)) parserExpressionsCard

/-- THE TIED CARD OF 'frustumlaw18.ParserCounts'. -/
def parserCountsCard : Claim7 := { stood := { row := parserCountsRow, standIns := [], harness := (true, "2323a726ebeb896d539f74e6d4bfdebc62ef3abaf5e3efef684d5bdd4a46d116"), looks := true }, kinds := [], alts := [], laidByText := true, laidKinds := [.data, .data, .data, .sentinel, .sentinel], laidTests := true, laidLooks := .later }
def ParserCountsCardSaid : Prop := Claim7.holds Tryz.pinned (.plain (OpenSpec.ofChange parserCountsSpec)) parserCountsCard

/-- THE TIED CARD OF 'frustumlaw18.ParserEqual'. -/
def parserEqualCard : Claim7 := { stood := { row := parserEqualRow, standIns := [], harness := (true, "2323a726ebeb896d539f74e6d4bfdebc62ef3abaf5e3efef684d5bdd4a46d116"), looks := true }, kinds := [], alts := [], laidByText := true, laidKinds := [.data, .data, .data, .sentinel, .sentinel], laidTests := true, laidLooks := .later }
def ParserEqualCardSaid : Prop := Claim7.holds Tryz.pinned (.plain (OpenSpec.ofChange parserEqualSpec)) parserEqualCard

/-- THE TIED CARD OF 'frustumlaw18.ParserSpaces'. -/
def parserSpacesCard : Claim7 := { stood := { row := parserSpacesRow, standIns := [], harness := (true, "2323a726ebeb896d539f74e6d4bfdebc62ef3abaf5e3efef684d5bdd4a46d116"), looks := true }, kinds := [], alts := [], laidByText := true, laidKinds := [.data, .data, .data, .sentinel, .sentinel], laidTests := true, laidLooks := .later }
def ParserSpacesCardSaid : Prop := Claim7.holds Tryz.pinned (.plain (OpenSpec.ofChange parserSpacesSpec)) parserSpacesCard

/-- THE TIED CARD OF 'frustumlaw18.ParserLines'. -/
def parserLinesCard : Claim7 := { stood := { row := parserLinesRow, standIns := [], harness := (true, "2323a726ebeb896d539f74e6d4bfdebc62ef3abaf5e3efef684d5bdd4a46d116"), looks := true }, kinds := [], alts := [], laidByText := true, laidKinds := [.data, .data, .data, .sentinel, .sentinel], laidTests := true, laidLooks := .later }
def ParserLinesCardSaid : Prop := Claim7.holds Tryz.pinned (.plain (OpenSpec.ofChange parserLinesSpec)) parserLinesCard

/-- THE SECOND FORM's CARD OF 'frustumlaw18.ParserTotal'. -/
def parserTotalUptoCard : Claim7 := { stood := { row := parserTotalUptoRow, standIns := [], harness := (true, "2323a726ebeb896d539f74e6d4bfdebc62ef3abaf5e3efef684d5bdd4a46d116"), looks := true }, kinds := [], alts := [], laidByText := true, laidKinds := [.data, .data, .data, .sentinel, .sentinel], laidTests := true, laidLooks := .later }
def ParserTotalUptoCardSaid : Prop := Claim7.holds Tryz.pinned (.plain (OpenSpec.upto parserTotalSpec)) parserTotalUptoCard

/-- THE SECOND FORM's CARD OF 'frustumlaw18.ParserExpressions'. -/
def parserExpressionsUptoCard : Claim7 := { stood := { row := parserExpressionsUptoRow, standIns := [], harness := (true, "2323a726ebeb896d539f74e6d4bfdebc62ef3abaf5e3efef684d5bdd4a46d116"), looks := true }, kinds := [], alts := [], laidByText := true, laidKinds := [.data, .data, .data, .sentinel, .sentinel], laidTests := true, laidLooks := .later }
def ParserExpressionsUptoCardSaid : Prop := Claim7.holds Tryz.pinned (.plain (OpenSpec.upto parserExpressionsSpec)) parserExpressionsUptoCard

/-- THE SECOND FORM's CARD OF 'frustumlaw18.ParserCounts'. -/
def parserCountsUptoCard : Claim7 := { stood := { row := parserCountsUptoRow, standIns := [], harness := (true, "2323a726ebeb896d539f74e6d4bfdebc62ef3abaf5e3efef684d5bdd4a46d116"), looks := true }, kinds := [], alts := [], laidByText := true, laidKinds := [.data, .data, .data, .sentinel, .sentinel], laidTests := true, laidLooks := .later }
def ParserCountsUptoCardSaid : Prop := Claim7.holds Tryz.pinned (.plain (OpenSpec.upto parserCountsSpec)) parserCountsUptoCard

/-- THE SECOND FORM's CARD OF 'frustumlaw18.ParserEqual'. -/
def parserEqualUptoCard : Claim7 := { stood := { row := parserEqualUptoRow, standIns := [], harness := (true, "2323a726ebeb896d539f74e6d4bfdebc62ef3abaf5e3efef684d5bdd4a46d116"), looks := true }, kinds := [], alts := [], laidByText := true, laidKinds := [.data, .data, .data, .sentinel, .sentinel], laidTests := true, laidLooks := .later }
def ParserEqualUptoCardSaid : Prop := Claim7.holds Tryz.pinned (.plain (OpenSpec.upto parserEqualSpec)) parserEqualUptoCard

/-- THE SECOND FORM's CARD OF 'frustumlaw18.ParserSpaces'. -/
def parserSpacesUptoCard : Claim7 := { stood := { row := parserSpacesUptoRow, standIns := [], harness := (true, "2323a726ebeb896d539f74e6d4bfdebc62ef3abaf5e3efef684d5bdd4a46d116"), looks := true }, kinds := [], alts := [], laidByText := true, laidKinds := [.data, .data, .data, .sentinel, .sentinel], laidTests := true, laidLooks := .later }
def ParserSpacesUptoCardSaid : Prop := Claim7.holds Tryz.pinned (.plain (OpenSpec.upto parserSpacesSpec)) parserSpacesUptoCard

/-- THE SECOND FORM's CARD OF 'frustumlaw18.ParserLines'. -/
def parserLinesUptoCard : Claim7 := { stood := { row := parserLinesUptoRow, standIns := [], harness := (true, "2323a726ebeb896d539f74e6d4bfdebc62ef3abaf5e3efef684d5bdd4a46d116"), looks := true }, kinds := [], alts := [], laidByText := true, laidKinds := [.data, .data, .data, .sentinel, .sentinel], laidTests := true, laidLooks := .later }
def ParserLinesUptoCardSaid : Prop := Claim7.holds Tryz.pinned (.plain (OpenSpec.upto parserLinesSpec)) parserLinesUptoCard
end Rows
end Go.Proofs.YtjpkcgepdfpbnaaGreatDoor
