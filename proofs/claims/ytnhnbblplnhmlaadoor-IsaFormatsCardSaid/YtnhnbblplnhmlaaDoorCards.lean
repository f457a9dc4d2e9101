/-
  DERIVED. GIVEN WITH THE SEED: THE CARDS: each row of YtnhnbblplnhmlaaDoorRows.lean that lists a variable, with what it lists TIED to the program's text (the seventh form; the later family's looks); each row that meets fmt, with fmt's text TOLD by the authors' own Lean function (tested against real Go, not proved from fmt's source: count such statements apart). THE CARD IS WHAT COUNTS. Prove the row's statement (the work); the ties are given (YtnhnbblplnhmlaaDoorTie.lean); close each card by the builder's one call (the guide's Derived/Test/ToyasCard.lean, 'card_holds'). Laid BY PROGRAM, IN A SANDBOX (cutbox-door.mjs). By AI agents, Wed Nov 11 2026. No macro, syntax, notation, axiom, sorry.
-/
import Derived.Test.YtnhnbblplnhmlaaDoorRows
import GoSem.ClaimSeven
namespace Go.Proofs.YtnhnbblplnhmlaaDoor
namespace Rows

/-- THE TIED CARD OF 'frustumlaw22.IsaOpcodes'. -/
def isaOpcodesCard : Claim7 := { stood := { row := isaOpcodesRow, standIns := [], harness := (true, "511d5f9cc127740284ca243a77835969b744ab2a35998a454f68b83a58e5eea0"), looks := false }, kinds := [], alts := [], laidByText := true, laidKinds := [.data, .data, .data, .data], laidTests := true, laidLooks := .later }
def IsaOpcodesCardSaid : Prop := Claim7.holds Tryd.pinned (.plain (OpenSpec.ofChange isaOpcodesSpec)) isaOpcodesCard

/-- THE TIED CARD OF 'frustumlaw22.IsaValidates'. -/
def isaValidatesCard : Claim7 := { stood := { row := isaValidatesRow, standIns := [], harness := (true, "511d5f9cc127740284ca243a77835969b744ab2a35998a454f68b83a58e5eea0"), looks := false }, kinds := [], alts := [], laidByText := true, laidKinds := [.data, .data, .data, .data], laidTests := true, laidLooks := .later }
def IsaValidatesCardSaid : Prop := Claim7.holds Tryd.pinned (.plain (OpenSpec.ofChange isaValidatesSpec)) isaValidatesCard

/-- THE TIED CARD OF 'frustumlaw22.IsaFormats'. -/
def isaFormatsCard : Claim7 := { stood := { row := isaFormatsRow, standIns := [], harness := (true, "511d5f9cc127740284ca243a77835969b744ab2a35998a454f68b83a58e5eea0"), looks := false }, kinds := [], alts := [], laidByText := true, laidKinds := [.data, .data, .data, .data], laidTests := true, laidLooks := .later }
def IsaFormatsCardSaid : Prop := Claim7.holds Tryd.pinned (.plain (OpenSpec.ofChange isaFormatsSpec)) isaFormatsCard

/-- THE TIED CARD OF 'frustumlaw22.IsaRanges'. -/
def isaRangesCard : Claim7 := { stood := { row := isaRangesRow, standIns := [], harness := (true, "511d5f9cc127740284ca243a77835969b744ab2a35998a454f68b83a58e5eea0"), looks := false }, kinds := [], alts := [], laidByText := true, laidKinds := [.data, .data, .data, .data], laidTests := true, laidLooks := .later }
def IsaRangesCardSaid : Prop := Claim7.holds Tryd.pinned (.plain (OpenSpec.ofChange isaRangesSpec)) isaRangesCard

/-- THE SECOND FORM's CARD OF 'frustumlaw22.IsaOpcodes'. -/
def isaOpcodesUptoCard : Claim7 := { stood := { row := isaOpcodesUptoRow, standIns := [], harness := (true, "511d5f9cc127740284ca243a77835969b744ab2a35998a454f68b83a58e5eea0"), looks := false }, kinds := [], alts := [], laidByText := true, laidKinds := [.data, .data, .data, .data], laidTests := true, laidLooks := .later }
def IsaOpcodesUptoCardSaid : Prop := Claim7.holds Tryd.pinned (.plain (OpenSpec.upto isaOpcodesSpec)) isaOpcodesUptoCard

/-- THE SECOND FORM's CARD OF 'frustumlaw22.IsaValidates'. -/
def isaValidatesUptoCard : Claim7 := { stood := { row := isaValidatesUptoRow, standIns := [], harness := (true, "511d5f9cc127740284ca243a77835969b744ab2a35998a454f68b83a58e5eea0"), looks := false }, kinds := [], alts := [], laidByText := true, laidKinds := [.data, .data, .data, .data], laidTests := true, laidLooks := .later }
def IsaValidatesUptoCardSaid : Prop := Claim7.holds Tryd.pinned (.plain (OpenSpec.upto isaValidatesSpec)) isaValidatesUptoCard

/-- THE SECOND FORM's CARD OF 'frustumlaw22.IsaFormats'. -/
def isaFormatsUptoCard : Claim7 := { stood := { row := isaFormatsUptoRow, standIns := [], harness := (true, "511d5f9cc127740284ca243a77835969b744ab2a35998a454f68b83a58e5eea0"), looks := false }, kinds := [], alts := [], laidByText := true, laidKinds := [.data, .data, .data, .data], laidTests := true, laidLooks := .later }
def IsaFormatsUptoCardSaid : Prop := Claim7.holds Tryd.pinned (.plain (OpenSpec.upto isaFormatsSpec)) isaFormatsUptoCard

/-- THE SECOND FORM's CARD OF 'frustumlaw22.IsaRanges'. -/
def isaRangesUptoCard : Claim7 := { stood := { row := isaRangesUptoRow, standIns := [], harness := (true, "511d5f9cc127740284ca243a77835969b744ab2a35998a454f68b83a58e5eea0"), looks := false }, kinds := [], alts := [], laidByText := true, laidKinds := [.data, .data, .data, .data], laidTests := true, laidLooks := .later }
def IsaRangesUptoCardSaid : Prop := Claim7.holds Tryd.pinned (.plain (OpenSpec.upto isaRangesSpec)) isaRangesUptoCard
end Rows
end Go.Proofs.YtnhnbblplnhmlaaDoor
