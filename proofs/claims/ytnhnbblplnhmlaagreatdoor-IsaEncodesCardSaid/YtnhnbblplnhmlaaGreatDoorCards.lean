/-
  DERIVED. GIVEN WITH THE SEED: THE CARDS: each row of YtnhnbblplnhmlaaGreatDoorRows.lean that lists a variable, with what it lists TIED to the program's text (the seventh form; the later family's looks); each row that meets fmt, with fmt's text TOLD by the authors' own Lean function (tested against real Go, not proved from fmt's source: count such statements apart). THE CARD IS WHAT COUNTS. Prove the row's statement (the work); the ties are given (YtnhnbblplnhmlaaGreatDoorTie.lean); close each card by the builder's one call (the guide's Derived/Test/ToyasCard.lean, 'card_holds'). Laid BY PROGRAM, IN A SANDBOX (cutbox-door.mjs). By AI agents, Wed Nov 11 2026. No macro, syntax, notation, axiom, sorry.
-/
import Derived.Test.YtnhnbblplnhmlaaGreatDoorRows
import GoSem.ClaimSeven
namespace Go.Proofs.YtnhnbblplnhmlaaGreatDoor
namespace Rows

/-- THE TIED CARD OF 'frustumlaw22.IsaComputes'. -/
def isaComputesCard : Claim7 := { stood := { row := isaComputesRow, standIns := [], harness := (true, "8440a488075af4670c8c45f49241872249441c9dd0f4fcfb4aba19b53f0fc2d9"), looks := false }, kinds := [], alts := [], laidByText := true, laidKinds := [.data, .data, .data, .data], laidTests := true, laidLooks := .later }
def IsaComputesCardSaid : Prop := Claim7.holds Tryz.pinned (.plain (OpenSpec.ofChange isaComputesSpec)) isaComputesCard

/-- THE TIED CARD OF 'frustumlaw22.IsaEncodes'. -/
def isaEncodesCard : Claim7 := { stood := { row := isaEncodesRow, standIns := [], harness := (true, "8440a488075af4670c8c45f49241872249441c9dd0f4fcfb4aba19b53f0fc2d9"), looks := false }, kinds := [], alts := [], laidByText := true, laidKinds := [.data, .data, .data, .data], laidTests := true, laidLooks := .later }
def IsaEncodesCardSaid : Prop := Claim7.holds Tryz.pinned (.plain (OpenSpec.ofChange isaEncodesSpec)) isaEncodesCard

/-- THE TIED CARD OF 'frustumlaw22.IsaDecodes'. -/
def isaDecodesCard : Claim7 := { stood := { row := isaDecodesRow, standIns := [], harness := (true, "8440a488075af4670c8c45f49241872249441c9dd0f4fcfb4aba19b53f0fc2d9"), looks := false }, kinds := [], alts := [], laidByText := true, laidKinds := [.data, .data, .data, .data], laidTests := true, laidLooks := .later }
def IsaDecodesCardSaid : Prop := Claim7.holds Tryz.pinned (.plain (OpenSpec.ofChange isaDecodesSpec)) isaDecodesCard

/-- THE TIED CARD OF 'frustumlaw22.IsaRoundTrip'. -/
def isaRoundTripCard : Claim7 := { stood := { row := isaRoundTripRow, standIns := [], harness := (true, "8440a488075af4670c8c45f49241872249441c9dd0f4fcfb4aba19b53f0fc2d9"), looks := false }, kinds := [], alts := [], laidByText := true, laidKinds := [.data, .data, .data, .data], laidTests := true, laidLooks := .later }
def IsaRoundTripCardSaid : Prop := Claim7.holds Tryz.pinned (.plain (OpenSpec.ofChange isaRoundTripSpec)) isaRoundTripCard

/-- THE SECOND FORM's CARD OF 'frustumlaw22.IsaComputes'. -/
def isaComputesUptoCard : Claim7 := { stood := { row := isaComputesUptoRow, standIns := [], harness := (true, "8440a488075af4670c8c45f49241872249441c9dd0f4fcfb4aba19b53f0fc2d9"), looks := false }, kinds := [], alts := [], laidByText := true, laidKinds := [.data, .data, .data, .data], laidTests := true, laidLooks := .later }
def IsaComputesUptoCardSaid : Prop := Claim7.holds Tryz.pinned (.plain (OpenSpec.upto isaComputesSpec)) isaComputesUptoCard

/-- THE SECOND FORM's CARD OF 'frustumlaw22.IsaEncodes'. -/
def isaEncodesUptoCard : Claim7 := { stood := { row := isaEncodesUptoRow, standIns := [], harness := (true, "8440a488075af4670c8c45f49241872249441c9dd0f4fcfb4aba19b53f0fc2d9"), looks := false }, kinds := [], alts := [], laidByText := true, laidKinds := [.data, .data, .data, .data], laidTests := true, laidLooks := .later }
def IsaEncodesUptoCardSaid : Prop := Claim7.holds Tryz.pinned (.plain (OpenSpec.upto isaEncodesSpec)) isaEncodesUptoCard

/-- THE SECOND FORM's CARD OF 'frustumlaw22.IsaDecodes'. -/
def isaDecodesUptoCard : Claim7 := { stood := { row := isaDecodesUptoRow, standIns := [], harness := (true, "8440a488075af4670c8c45f49241872249441c9dd0f4fcfb4aba19b53f0fc2d9"), looks := false }, kinds := [], alts := [], laidByText := true, laidKinds := [.data, .data, .data, .data], laidTests := true, laidLooks := .later }
def IsaDecodesUptoCardSaid : Prop := Claim7.holds Tryz.pinned (.plain (OpenSpec.upto isaDecodesSpec)) isaDecodesUptoCard

/-- THE SECOND FORM's CARD OF 'frustumlaw22.IsaRoundTrip'. -/
def isaRoundTripUptoCard : Claim7 := { stood := { row := isaRoundTripUptoRow, standIns := [], harness := (true, "8440a488075af4670c8c45f49241872249441c9dd0f4fcfb4aba19b53f0fc2d9"), looks := false }, kinds := [], alts := [], laidByText := true, laidKinds := [.data, .data, .data, .data], laidTests := true, laidLooks := .later }
def IsaRoundTripUptoCardSaid : Prop := Claim7.holds Tryz.pinned (.plain (OpenSpec.upto isaRoundTripSpec)) isaRoundTripUptoCard
end Rows
end Go.Proofs.YtnhnbblplnhmlaaGreatDoor
