/-
  No cell of these rows narrows 'for every input' (looked for: loops, veiled, ifaces, maps, wideKeys, modest, calm, conditions, laid).
  DERIVED. THE GIVEN ROWS OF THIS SEAT. 6 by the template 'for every input the law returns true; each argument reads behind the call as it read before'; 0 by the template 'total and deterministic' (their statements: YtannnoncdioifaaTotals.lean).
  GIVEN WITH THE SEED: the statements are not yours to turn. If you find one false, say at which input.
  Laid BY PROGRAM, IN A SANDBOX (cutbox-rows.mjs): the forced cells as the released guide's own fill.sh prints them over the translation 2c7abaaf359e30a6… (all of the seat's roots in one cut). By AI agents, Wed Nov 11 2026. No macro, syntax, notation, axiom, sorry.
-/
import Derived.Test.YtannnoncdioifaaChecked
import GoSem.Claim
import GoSem.ClaimJoined
import GoSem.ClaimMapViews
import Derived.JoinedTies
import Derived.KernelRfl
namespace Go.Proofs.Ytannnoncdioifaa
/- THE CELL 'sum', in the pinned program and in every row, IS THE sha256 OF THE DUMP (.gsa) THAT YtannnoncdioifaaProg.lean LOADS. Nothing in Lean hashes anything: it is a label: what it is worth is what the hold of that sum in a sandbox is worth. -/
noncomputable def Try.pinned : Pinned := { name := "ytannnoncdioifaa", sum := "2c7abaaf359e30a639149c75447831a6ab917e45a0b17e9ffeab2aebe5e8b2b5", checked := Try.checked }
namespace Rows
def none {H : Type} : Left H := { results := [], args := [] }

/-- 'frustumlaw11.AddressModes': WHATEVER THE INPUT: true; the input reads as it did. -/
def addressModesSpec : ChangeSpec := { name := "addressModes", fn := fun _ => fun
  | [d1, d2, d3] => { results := [.lit (.bool true)], args := [d1, d2, d3] }
  | _ => none }
def addressModesRow : OpenClaim := { program := "ytannnoncdioifaa", sum := "2c7abaaf359e30a639149c75447831a6ab917e45a0b17e9ffeab2aebe5e8b2b5", func := "frustum/frustumlaw11.AddressModes", spec := "addressModes", apart := false }
def AddressModesSaid : Prop := addressModesRow.holds Try.pinned (OpenSpec.ofChange addressModesSpec)

/-- ITS FALSE NEIGHBOUR: 'it returns false'. Refute it at one input. -/
def addressModesWrong : ChangeSpec := { name := "addressModes", fn := fun _ => fun
  | [d1, d2, d3] => { results := [.lit (.bool false)], args := [d1, d2, d3] }
  | _ => none }
def AddressModesWrongFalsely : Prop := addressModesRow.holds Try.pinned (OpenSpec.ofChange addressModesWrong)

/-- 'frustumlaw11.AddressIndex': WHATEVER THE INPUT: true; the input reads as it did. -/
def addressIndexSpec : ChangeSpec := { name := "addressIndex", fn := fun _ => fun
  | [d1, d2, d3] => { results := [.lit (.bool true)], args := [d1, d2, d3] }
  | _ => none }
def addressIndexRow : OpenClaim := { program := "ytannnoncdioifaa", sum := "2c7abaaf359e30a639149c75447831a6ab917e45a0b17e9ffeab2aebe5e8b2b5", func := "frustum/frustumlaw11.AddressIndex", spec := "addressIndex", apart := false }
def AddressIndexSaid : Prop := addressIndexRow.holds Try.pinned (OpenSpec.ofChange addressIndexSpec)

/-- ITS FALSE NEIGHBOUR: 'it returns false'. Refute it at one input. -/
def addressIndexWrong : ChangeSpec := { name := "addressIndex", fn := fun _ => fun
  | [d1, d2, d3] => { results := [.lit (.bool false)], args := [d1, d2, d3] }
  | _ => none }
def AddressIndexWrongFalsely : Prop := addressIndexRow.holds Try.pinned (OpenSpec.ofChange addressIndexWrong)

/-- 'frustumlaw11.AddressPairs': WHATEVER THE INPUT: true; the input reads as it did. -/
def addressPairsSpec : ChangeSpec := { name := "addressPairs", fn := fun _ => fun
  | [d1, d2, d3] => { results := [.lit (.bool true)], args := [d1, d2, d3] }
  | _ => none }
def addressPairsRow : OpenClaim := { program := "ytannnoncdioifaa", sum := "2c7abaaf359e30a639149c75447831a6ab917e45a0b17e9ffeab2aebe5e8b2b5", func := "frustum/frustumlaw11.AddressPairs", spec := "addressPairs", apart := false }
def AddressPairsSaid : Prop := addressPairsRow.holds Try.pinned (OpenSpec.ofChange addressPairsSpec)

/-- ITS FALSE NEIGHBOUR: 'it returns false'. Refute it at one input. -/
def addressPairsWrong : ChangeSpec := { name := "addressPairs", fn := fun _ => fun
  | [d1, d2, d3] => { results := [.lit (.bool false)], args := [d1, d2, d3] }
  | _ => none }
def AddressPairsWrongFalsely : Prop := addressPairsRow.holds Try.pinned (OpenSpec.ofChange addressPairsWrong)

/-- 'frustumlaw11.AddressInside': WHATEVER THE INPUT: true; the input reads as it did. -/
def addressInsideSpec : ChangeSpec := { name := "addressInside", fn := fun _ => fun
  | [d1, d2, d3] => { results := [.lit (.bool true)], args := [d1, d2, d3] }
  | _ => none }
def addressInsideRow : OpenClaim := { program := "ytannnoncdioifaa", sum := "2c7abaaf359e30a639149c75447831a6ab917e45a0b17e9ffeab2aebe5e8b2b5", func := "frustum/frustumlaw11.AddressInside", spec := "addressInside", apart := false }
def AddressInsideSaid : Prop := addressInsideRow.holds Try.pinned (OpenSpec.ofChange addressInsideSpec)

/-- ITS FALSE NEIGHBOUR: 'it returns false'. Refute it at one input. -/
def addressInsideWrong : ChangeSpec := { name := "addressInside", fn := fun _ => fun
  | [d1, d2, d3] => { results := [.lit (.bool false)], args := [d1, d2, d3] }
  | _ => none }
def AddressInsideWrongFalsely : Prop := addressInsideRow.holds Try.pinned (OpenSpec.ofChange addressInsideWrong)

/-- 'frustumlaw11.AddressPeriod': WHATEVER THE INPUT: true; the input reads as it did. -/
def addressPeriodSpec : ChangeSpec := { name := "addressPeriod", fn := fun _ => fun
  | [d1, d2, d3] => { results := [.lit (.bool true)], args := [d1, d2, d3] }
  | _ => none }
def addressPeriodRow : OpenClaim := { program := "ytannnoncdioifaa", sum := "2c7abaaf359e30a639149c75447831a6ab917e45a0b17e9ffeab2aebe5e8b2b5", func := "frustum/frustumlaw11.AddressPeriod", spec := "addressPeriod", apart := false }
def AddressPeriodSaid : Prop := addressPeriodRow.holds Try.pinned (OpenSpec.ofChange addressPeriodSpec)

/-- ITS FALSE NEIGHBOUR: 'it returns false'. Refute it at one input. -/
def addressPeriodWrong : ChangeSpec := { name := "addressPeriod", fn := fun _ => fun
  | [d1, d2, d3] => { results := [.lit (.bool false)], args := [d1, d2, d3] }
  | _ => none }
def AddressPeriodWrongFalsely : Prop := addressPeriodRow.holds Try.pinned (OpenSpec.ofChange addressPeriodWrong)

/-- 'frustumlaw11.AddressMirror': WHATEVER THE INPUT: true; the input reads as it did. -/
def addressMirrorSpec : ChangeSpec := { name := "addressMirror", fn := fun _ => fun
  | [d1, d2] => { results := [.lit (.bool true)], args := [d1, d2] }
  | _ => none }
def addressMirrorRow : OpenClaim := { program := "ytannnoncdioifaa", sum := "2c7abaaf359e30a639149c75447831a6ab917e45a0b17e9ffeab2aebe5e8b2b5", func := "frustum/frustumlaw11.AddressMirror", spec := "addressMirror", apart := false }
def AddressMirrorSaid : Prop := addressMirrorRow.holds Try.pinned (OpenSpec.ofChange addressMirrorSpec)

/-- ITS FALSE NEIGHBOUR: 'it returns false'. Refute it at one input. -/
def addressMirrorWrong : ChangeSpec := { name := "addressMirror", fn := fun _ => fun
  | [d1, d2] => { results := [.lit (.bool false)], args := [d1, d2] }
  | _ => none }
def AddressMirrorWrongFalsely : Prop := addressMirrorRow.holds Try.pinned (OpenSpec.ofChange addressMirrorWrong)

/- THE SECOND FORM. 'bulk': how many values and letters a reading holds, each counted each time it is reached (what is shared counts as often as it is met; a slice's spare places count too). A statement '..UptoSaid' is the law's where the arguments, and the package variables that the reading takes, are together of bulk at most 1048576: NARROWER than '..Said'. Prove '..Said' where nothing that the law and all that it calls make is longer than what came in: it says more and counts as full. Else prove '..UptoSaid'. A law counts once. -/
mutual
def uptoBulk {H : Type} : DataW H → Nat
  | .lit (.string bytes) => bytes.length + 1
  | .lit _ => 1
  | .nil => 1
  | .ptr d => uptoBulk d + 1
  | .slice elems spare => uptoBulkAll elems + uptoBulkAll spare + 1
  | .agg parts => uptoBulkAll parts + 1
  | .iface _ d => uptoBulk d + 1
  | .map entries => uptoBulkEntries entries + 1
  | .held _ => 1
def uptoBulkAll {H : Type} : List (DataW H) → Nat
  | [] => 0
  | d :: r => uptoBulk d + uptoBulkAll r
def uptoBulkEntries {H : Type} : List (Lit × DataW H) → Nat
  | [] => 0
  | x :: r => uptoBulkEntry x + uptoBulkEntries r
def uptoBulkEntry {H : Type} : Lit × DataW H → Nat
  | (.string bytes, d) => bytes.length + uptoBulk d + 1
  | (_, d) => uptoBulk d + 1
 end
def uptoSmall : (H : Type) → List (DataW H) → Bool := fun _ ds => decide (uptoBulkAll ds ≤ 1048576)
def OpenSpec.upto (s : _root_.Go.ChangeSpec) : _root_.Go.OpenSpec := { _root_.Go.OpenSpec.ofChange s with cond := some uptoSmall }

/-- 'frustumlaw11.AddressModes', WHERE WHAT IT READS IS OF BULK AT MOST 1048576: true; the input reads as it did. -/
def addressModesUptoRow : OpenClaim := { program := "ytannnoncdioifaa", sum := "2c7abaaf359e30a639149c75447831a6ab917e45a0b17e9ffeab2aebe5e8b2b5", func := "frustum/frustumlaw11.AddressModes", spec := "addressModes", apart := false, narrowed := true }
def AddressModesUptoSaid : Prop := addressModesUptoRow.holds Try.pinned (OpenSpec.upto addressModesSpec)

/-- 'frustumlaw11.AddressIndex', WHERE WHAT IT READS IS OF BULK AT MOST 1048576: true; the input reads as it did. -/
def addressIndexUptoRow : OpenClaim := { program := "ytannnoncdioifaa", sum := "2c7abaaf359e30a639149c75447831a6ab917e45a0b17e9ffeab2aebe5e8b2b5", func := "frustum/frustumlaw11.AddressIndex", spec := "addressIndex", apart := false, narrowed := true }
def AddressIndexUptoSaid : Prop := addressIndexUptoRow.holds Try.pinned (OpenSpec.upto addressIndexSpec)

/-- 'frustumlaw11.AddressPairs', WHERE WHAT IT READS IS OF BULK AT MOST 1048576: true; the input reads as it did. -/
def addressPairsUptoRow : OpenClaim := { program := "ytannnoncdioifaa", sum := "2c7abaaf359e30a639149c75447831a6ab917e45a0b17e9ffeab2aebe5e8b2b5", func := "frustum/frustumlaw11.AddressPairs", spec := "addressPairs", apart := false, narrowed := true }
def AddressPairsUptoSaid : Prop := addressPairsUptoRow.holds Try.pinned (OpenSpec.upto addressPairsSpec)

/-- 'frustumlaw11.AddressInside', WHERE WHAT IT READS IS OF BULK AT MOST 1048576: true; the input reads as it did. -/
def addressInsideUptoRow : OpenClaim := { program := "ytannnoncdioifaa", sum := "2c7abaaf359e30a639149c75447831a6ab917e45a0b17e9ffeab2aebe5e8b2b5", func := "frustum/frustumlaw11.AddressInside", spec := "addressInside", apart := false, narrowed := true }
def AddressInsideUptoSaid : Prop := addressInsideUptoRow.holds Try.pinned (OpenSpec.upto addressInsideSpec)

/-- 'frustumlaw11.AddressPeriod', WHERE WHAT IT READS IS OF BULK AT MOST 1048576: true; the input reads as it did. -/
def addressPeriodUptoRow : OpenClaim := { program := "ytannnoncdioifaa", sum := "2c7abaaf359e30a639149c75447831a6ab917e45a0b17e9ffeab2aebe5e8b2b5", func := "frustum/frustumlaw11.AddressPeriod", spec := "addressPeriod", apart := false, narrowed := true }
def AddressPeriodUptoSaid : Prop := addressPeriodUptoRow.holds Try.pinned (OpenSpec.upto addressPeriodSpec)

/-- 'frustumlaw11.AddressMirror', WHERE WHAT IT READS IS OF BULK AT MOST 1048576: true; the input reads as it did. -/
def addressMirrorUptoRow : OpenClaim := { program := "ytannnoncdioifaa", sum := "2c7abaaf359e30a639149c75447831a6ab917e45a0b17e9ffeab2aebe5e8b2b5", func := "frustum/frustumlaw11.AddressMirror", spec := "addressMirror", apart := false, narrowed := true }
def AddressMirrorUptoSaid : Prop := addressMirrorUptoRow.holds Try.pinned (OpenSpec.upto addressMirrorSpec)

end Rows
end Go.Proofs.Ytannnoncdioifaa
