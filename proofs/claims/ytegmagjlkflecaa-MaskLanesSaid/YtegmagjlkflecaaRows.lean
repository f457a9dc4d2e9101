/-
  No cell of these rows narrows 'for every input' (looked for: loops, veiled, ifaces, maps, wideKeys, modest, calm, conditions, laid).
  DERIVED. THE GIVEN ROWS OF THIS SEAT. 5 by the template 'for every input the law returns true; each argument reads behind the call as it read before'; 0 by the template 'total and deterministic' (their statements: YtegmagjlkflecaaTotals.lean).
  GIVEN WITH THE SEED: the statements are not yours to turn. If you find one false, say at which input.
  Laid BY PROGRAM, IN A SANDBOX (cutbox-rows.mjs): the forced cells as the released guide's own fill.sh prints them over the translation ea1a943c9ba6d8a6… (all of the seat's roots in one cut). By AI agents, Wed Nov 11 2026. No macro, syntax, notation, axiom, sorry.
-/
import Derived.Test.YtegmagjlkflecaaChecked
import GoSem.Claim
import GoSem.ClaimJoined
import GoSem.ClaimMapViews
import Derived.JoinedTies
import Derived.KernelRfl
namespace Go.Proofs.Ytegmagjlkflecaa
/- THE CELL 'sum', in the pinned program and in every row, IS THE sha256 OF THE DUMP (.gsa) THAT YtegmagjlkflecaaProg.lean LOADS. Nothing in Lean hashes anything: it is a label: what it is worth is what the hold of that sum in a sandbox is worth. -/
noncomputable def Try.pinned : Pinned := { name := "ytegmagjlkflecaa", sum := "ea1a943c9ba6d8a68e098fa46ac51c7aaf0893d111d4010233709565b4a24f1f", checked := Try.checked }
namespace Rows
def none {H : Type} : Left H := { results := [], args := [] }

/-- 'frustumlaw08.MaskLanes': WHATEVER THE INPUT: true; the input reads as it did. -/
def maskLanesSpec : ChangeSpec := { name := "maskLanes", fn := fun _ => fun
  | [d1, d2] => { results := [.lit (.bool true)], args := [d1, d2] }
  | _ => none }
def maskLanesRow : OpenClaim := { program := "ytegmagjlkflecaa", sum := "ea1a943c9ba6d8a68e098fa46ac51c7aaf0893d111d4010233709565b4a24f1f", func := "frustum/frustumlaw08.MaskLanes", spec := "maskLanes", apart := false }
def MaskLanesSaid : Prop := maskLanesRow.holds Try.pinned (OpenSpec.ofChange maskLanesSpec)

/-- ITS FALSE NEIGHBOUR: 'it returns false'. Refute it at one input. -/
def maskLanesWrong : ChangeSpec := { name := "maskLanes", fn := fun _ => fun
  | [d1, d2] => { results := [.lit (.bool false)], args := [d1, d2] }
  | _ => none }
def MaskLanesWrongFalsely : Prop := maskLanesRow.holds Try.pinned (OpenSpec.ofChange maskLanesWrong)

/-- 'frustumlaw08.MaskOperations': WHATEVER THE INPUT: true; the input reads as it did. -/
def maskOperationsSpec : ChangeSpec := { name := "maskOperations", fn := fun _ => fun
  | [d1, d2] => { results := [.lit (.bool true)], args := [d1, d2] }
  | _ => none }
def maskOperationsRow : OpenClaim := { program := "ytegmagjlkflecaa", sum := "ea1a943c9ba6d8a68e098fa46ac51c7aaf0893d111d4010233709565b4a24f1f", func := "frustum/frustumlaw08.MaskOperations", spec := "maskOperations", apart := false }
def MaskOperationsSaid : Prop := maskOperationsRow.holds Try.pinned (OpenSpec.ofChange maskOperationsSpec)

/-- ITS FALSE NEIGHBOUR: 'it returns false'. Refute it at one input. -/
def maskOperationsWrong : ChangeSpec := { name := "maskOperations", fn := fun _ => fun
  | [d1, d2] => { results := [.lit (.bool false)], args := [d1, d2] }
  | _ => none }
def MaskOperationsWrongFalsely : Prop := maskOperationsRow.holds Try.pinned (OpenSpec.ofChange maskOperationsWrong)

/-- 'frustumlaw08.MaskSets': WHATEVER THE INPUT: true; the input reads as it did. -/
def maskSetsSpec : ChangeSpec := { name := "maskSets", fn := fun _ => fun
  | [d1, d2, d3] => { results := [.lit (.bool true)], args := [d1, d2, d3] }
  | _ => none }
def maskSetsRow : OpenClaim := { program := "ytegmagjlkflecaa", sum := "ea1a943c9ba6d8a68e098fa46ac51c7aaf0893d111d4010233709565b4a24f1f", func := "frustum/frustumlaw08.MaskSets", spec := "maskSets", apart := false }
def MaskSetsSaid : Prop := maskSetsRow.holds Try.pinned (OpenSpec.ofChange maskSetsSpec)

/-- ITS FALSE NEIGHBOUR: 'it returns false'. Refute it at one input. -/
def maskSetsWrong : ChangeSpec := { name := "maskSets", fn := fun _ => fun
  | [d1, d2, d3] => { results := [.lit (.bool false)], args := [d1, d2, d3] }
  | _ => none }
def MaskSetsWrongFalsely : Prop := maskSetsRow.holds Try.pinned (OpenSpec.ofChange maskSetsWrong)

/-- 'frustumlaw08.MaskCounts': WHATEVER THE INPUT: true; the input reads as it did. -/
def maskCountsSpec : ChangeSpec := { name := "maskCounts", fn := fun _ => fun
  | [d1, d2, d3] => { results := [.lit (.bool true)], args := [d1, d2, d3] }
  | _ => none }
def maskCountsRow : OpenClaim := { program := "ytegmagjlkflecaa", sum := "ea1a943c9ba6d8a68e098fa46ac51c7aaf0893d111d4010233709565b4a24f1f", func := "frustum/frustumlaw08.MaskCounts", spec := "maskCounts", apart := false }
def MaskCountsSaid : Prop := maskCountsRow.holds Try.pinned (OpenSpec.ofChange maskCountsSpec)

/-- ITS FALSE NEIGHBOUR: 'it returns false'. Refute it at one input. -/
def maskCountsWrong : ChangeSpec := { name := "maskCounts", fn := fun _ => fun
  | [d1, d2, d3] => { results := [.lit (.bool false)], args := [d1, d2, d3] }
  | _ => none }
def MaskCountsWrongFalsely : Prop := maskCountsRow.holds Try.pinned (OpenSpec.ofChange maskCountsWrong)

/-- 'frustumlaw08.MaskTexts': WHATEVER THE INPUT: true; the input reads as it did. -/
def maskTextsSpec : ChangeSpec := { name := "maskTexts", fn := fun _ => fun
  | [d1, d2] => { results := [.lit (.bool true)], args := [d1, d2] }
  | _ => none }
def maskTextsRow : OpenClaim := { program := "ytegmagjlkflecaa", sum := "ea1a943c9ba6d8a68e098fa46ac51c7aaf0893d111d4010233709565b4a24f1f", func := "frustum/frustumlaw08.MaskTexts", spec := "maskTexts", apart := false }
def MaskTextsSaid : Prop := maskTextsRow.holds Try.pinned (OpenSpec.ofChange maskTextsSpec)

/-- ITS FALSE NEIGHBOUR: 'it returns false'. Refute it at one input. -/
def maskTextsWrong : ChangeSpec := { name := "maskTexts", fn := fun _ => fun
  | [d1, d2] => { results := [.lit (.bool false)], args := [d1, d2] }
  | _ => none }
def MaskTextsWrongFalsely : Prop := maskTextsRow.holds Try.pinned (OpenSpec.ofChange maskTextsWrong)

/- THE SECOND FORM. 'bulk': how many values and letters a reading holds, each counted each time it is reached (what is shared counts as often as it is met; a slice's spare places count too). A statement '..UptoSaid' is the law's where the arguments, and the package variables that the reading takes, are together of bulk at most 1048576: NARROWER than '..Said'. Prove '..Said' where nothing that the law and all that it calls make is longer than what came in: it says more and counts as full. Else prove '..UptoSaid'. A law counts once. -/
mutual
def uptoBulk {H : Type} : DataW H → Nat
  | .lit (.string bytes) => bytes.length + 1
  | .lit _ => 1
  | .nil => 1
  | .ptr d => uptoBulk d + 1
  | .slice elems spare => uptoBulkAll elems + uptoBulkAll spare + 1
  | .agg parts => uptoBulkAll parts + 1
  | .iface _ d => uptoBulk d + 1
  | .map entries => uptoBulkEntries entries + 1
  | .held _ => 1
def uptoBulkAll {H : Type} : List (DataW H) → Nat
  | [] => 0
  | d :: r => uptoBulk d + uptoBulkAll r
def uptoBulkEntries {H : Type} : List (Lit × DataW H) → Nat
  | [] => 0
  | x :: r => uptoBulkEntry x + uptoBulkEntries r
def uptoBulkEntry {H : Type} : Lit × DataW H → Nat
  | (.string bytes, d) => bytes.length + uptoBulk d + 1
  | (_, d) => uptoBulk d + 1
 end
def uptoSmall : (H : Type) → List (DataW H) → Bool := fun _ ds => decide (uptoBulkAll ds ≤ 1048576)
def OpenSpec.upto (s : _root_.Go.ChangeSpec) : _root_.Go.OpenSpec := { _root_.Go.OpenSpec.ofChange s with cond := some uptoSmall }

/-- 'frustumlaw08.MaskLanes', WHERE WHAT IT READS IS OF BULK AT MOST 1048576: true; the input reads as it did. -/
def maskLanesUptoRow : OpenClaim := { program := "ytegmagjlkflecaa", sum := "ea1a943c9ba6d8a68e098fa46ac51c7aaf0893d111d4010233709565b4a24f1f", func := "frustum/frustumlaw08.MaskLanes", spec := "maskLanes", apart := false, narrowed := true }
def MaskLanesUptoSaid : Prop := maskLanesUptoRow.holds Try.pinned (OpenSpec.upto maskLanesSpec)

/-- 'frustumlaw08.MaskOperations', WHERE WHAT IT READS IS OF BULK AT MOST 1048576: true; the input reads as it did. -/
def maskOperationsUptoRow : OpenClaim := { program := "ytegmagjlkflecaa", sum := "ea1a943c9ba6d8a68e098fa46ac51c7aaf0893d111d4010233709565b4a24f1f", func := "frustum/frustumlaw08.MaskOperations", spec := "maskOperations", apart := false, narrowed := true }
def MaskOperationsUptoSaid : Prop := maskOperationsUptoRow.holds Try.pinned (OpenSpec.upto maskOperationsSpec)

/-- 'frustumlaw08.MaskSets', WHERE WHAT IT READS IS OF BULK AT MOST 1048576: true; the input reads as it did. -/
def maskSetsUptoRow : OpenClaim := { program := "ytegmagjlkflecaa", sum := "ea1a943c9ba6d8a68e098fa46ac51c7aaf0893d111d4010233709565b4a24f1f", func := "frustum/frustumlaw08.MaskSets", spec := "maskSets", apart := false, narrowed := true }
def MaskSetsUptoSaid : Prop := maskSetsUptoRow.holds Try.pinned (OpenSpec.upto maskSetsSpec)

/-- 'frustumlaw08.MaskCounts', WHERE WHAT IT READS IS OF BULK AT MOST 1048576: true; the input reads as it did. -/
def maskCountsUptoRow : OpenClaim := { program := "ytegmagjlkflecaa", sum := "ea1a943c9ba6d8a68e098fa46ac51c7aaf0893d111d4010233709565b4a24f1f", func := "frustum/frustumlaw08.MaskCounts", spec := "maskCounts", apart := false, narrowed := true }
def MaskCountsUptoSaid : Prop := maskCountsUptoRow.holds Try.pinned (OpenSpec.upto maskCountsSpec)

/-- 'frustumlaw08.MaskTexts', WHERE WHAT IT READS IS OF BULK AT MOST 1048576: true; the input reads as it did. -/
def maskTextsUptoRow : OpenClaim := { program := "ytegmagjlkflecaa", sum := "ea1a943c9ba6d8a68e098fa46ac51c7aaf0893d111d4010233709565b4a24f1f", func := "frustum/frustumlaw08.MaskTexts", spec := "maskTexts", apart := false, narrowed := true }
def MaskTextsUptoSaid : Prop := maskTextsUptoRow.holds Try.pinned (OpenSpec.upto maskTextsSpec)

end Rows
end Go.Proofs.Ytegmagjlkflecaa
