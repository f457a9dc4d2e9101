/-
  No cell of these rows narrows 'for every input' (looked for: loops, veiled, ifaces, maps, wideKeys, modest, calm, conditions, laid).
  DERIVED. THE GIVEN ROWS OF THIS SEAT. 8 by the template 'for every input the law returns true; each argument reads behind the call as it read before'; 0 by the template 'total and deterministic' (their statements: YtpbciedbdooleaaTotals.lean).
  GIVEN WITH THE SEED: the statements are not yours to turn. If you find one false, say at which input.
  Laid BY PROGRAM, IN A SANDBOX (cutbox-rows.mjs): the forced cells as the released guide's own fill.sh prints them over the translation 59ea1678614e7b6a… (all of the seat's roots in one cut). By AI agents, Wed Nov 11 2026. No macro, syntax, notation, axiom, sorry.
-/
import Derived.Test.YtpbciedbdooleaaChecked
import GoSem.Claim
import GoSem.ClaimJoined
import GoSem.ClaimMapViews
import Derived.JoinedTies
import Derived.KernelRfl
namespace Go.Proofs.Ytpbciedbdooleaa
/- THE CELL 'sum', in the pinned program and in every row, IS THE sha256 OF THE DUMP (.gsa) THAT YtpbciedbdooleaaProg.lean LOADS. Nothing in Lean hashes anything: it is a label: what it is worth is what the hold of that sum in a sandbox is worth. -/
noncomputable def Try.pinned : Pinned := { name := "ytpbciedbdooleaa", sum := "59ea1678614e7b6a6cd447dcccfdfd0f38b2b9b8c20bcad171af5ccd19ad0d4e", checked := Try.checked }
namespace Rows
def none {H : Type} : Left H := { results := [], args := [] }

/-- 'frustumlaw02.MinifloatFormats': WHATEVER THE INPUT: true; the input reads as it did. -/
def minifloatFormatsSpec : ChangeSpec := { name := "minifloatFormats", fn := fun _ => fun
  | [d1, d2] => { results := [.lit (.bool true)], args := [d1, d2] }
  | _ => none }
def minifloatFormatsRow : OpenClaim := { program := "ytpbciedbdooleaa", sum := "59ea1678614e7b6a6cd447dcccfdfd0f38b2b9b8c20bcad171af5ccd19ad0d4e", func := "frustum/frustumlaw02.MinifloatFormats", spec := "minifloatFormats", apart := false }
def MinifloatFormatsSaid : Prop := minifloatFormatsRow.holds Try.pinned (OpenSpec.ofChange minifloatFormatsSpec)

/-- ITS FALSE NEIGHBOUR: 'it returns false'. Refute it at one input. -/
def minifloatFormatsWrong : ChangeSpec := { name := "minifloatFormats", fn := fun _ => fun
  | [d1, d2] => { results := [.lit (.bool false)], args := [d1, d2] }
  | _ => none }
def MinifloatFormatsWrongFalsely : Prop := minifloatFormatsRow.holds Try.pinned (OpenSpec.ofChange minifloatFormatsWrong)

/-- 'frustumlaw02.MinifloatDecodes': WHATEVER THE INPUT: true; the input reads as it did. -/
def minifloatDecodesSpec : ChangeSpec := { name := "minifloatDecodes", fn := fun _ => fun
  | [d1, d2] => { results := [.lit (.bool true)], args := [d1, d2] }
  | _ => none }
def minifloatDecodesRow : OpenClaim := { program := "ytpbciedbdooleaa", sum := "59ea1678614e7b6a6cd447dcccfdfd0f38b2b9b8c20bcad171af5ccd19ad0d4e", func := "frustum/frustumlaw02.MinifloatDecodes", spec := "minifloatDecodes", apart := false }
def MinifloatDecodesSaid : Prop := minifloatDecodesRow.holds Try.pinned (OpenSpec.ofChange minifloatDecodesSpec)

/-- ITS FALSE NEIGHBOUR: 'it returns false'. Refute it at one input. -/
def minifloatDecodesWrong : ChangeSpec := { name := "minifloatDecodes", fn := fun _ => fun
  | [d1, d2] => { results := [.lit (.bool false)], args := [d1, d2] }
  | _ => none }
def MinifloatDecodesWrongFalsely : Prop := minifloatDecodesRow.holds Try.pinned (OpenSpec.ofChange minifloatDecodesWrong)

/-- 'frustumlaw02.MinifloatEncodes': WHATEVER THE INPUT: true; the input reads as it did. -/
def minifloatEncodesSpec : ChangeSpec := { name := "minifloatEncodes", fn := fun _ => fun
  | [d1, d2] => { results := [.lit (.bool true)], args := [d1, d2] }
  | _ => none }
def minifloatEncodesRow : OpenClaim := { program := "ytpbciedbdooleaa", sum := "59ea1678614e7b6a6cd447dcccfdfd0f38b2b9b8c20bcad171af5ccd19ad0d4e", func := "frustum/frustumlaw02.MinifloatEncodes", spec := "minifloatEncodes", apart := false }
def MinifloatEncodesSaid : Prop := minifloatEncodesRow.holds Try.pinned (OpenSpec.ofChange minifloatEncodesSpec)

/-- ITS FALSE NEIGHBOUR: 'it returns false'. Refute it at one input. -/
def minifloatEncodesWrong : ChangeSpec := { name := "minifloatEncodes", fn := fun _ => fun
  | [d1, d2] => { results := [.lit (.bool false)], args := [d1, d2] }
  | _ => none }
def MinifloatEncodesWrongFalsely : Prop := minifloatEncodesRow.holds Try.pinned (OpenSpec.ofChange minifloatEncodesWrong)

/-- 'frustumlaw02.MinifloatRoundTrip': WHATEVER THE INPUT: true; the input reads as it did. -/
def minifloatRoundTripSpec : ChangeSpec := { name := "minifloatRoundTrip", fn := fun _ => fun
  | [d1, d2] => { results := [.lit (.bool true)], args := [d1, d2] }
  | _ => none }
def minifloatRoundTripRow : OpenClaim := { program := "ytpbciedbdooleaa", sum := "59ea1678614e7b6a6cd447dcccfdfd0f38b2b9b8c20bcad171af5ccd19ad0d4e", func := "frustum/frustumlaw02.MinifloatRoundTrip", spec := "minifloatRoundTrip", apart := false }
def MinifloatRoundTripSaid : Prop := minifloatRoundTripRow.holds Try.pinned (OpenSpec.ofChange minifloatRoundTripSpec)

/-- ITS FALSE NEIGHBOUR: 'it returns false'. Refute it at one input. -/
def minifloatRoundTripWrong : ChangeSpec := { name := "minifloatRoundTrip", fn := fun _ => fun
  | [d1, d2] => { results := [.lit (.bool false)], args := [d1, d2] }
  | _ => none }
def MinifloatRoundTripWrongFalsely : Prop := minifloatRoundTripRow.holds Try.pinned (OpenSpec.ofChange minifloatRoundTripWrong)

/-- 'frustumlaw02.MinifloatZero': WHATEVER THE INPUT: true; the input reads as it did. -/
def minifloatZeroSpec : ChangeSpec := { name := "minifloatZero", fn := fun _ => fun
  | [d1, d2] => { results := [.lit (.bool true)], args := [d1, d2] }
  | _ => none }
def minifloatZeroRow : OpenClaim := { program := "ytpbciedbdooleaa", sum := "59ea1678614e7b6a6cd447dcccfdfd0f38b2b9b8c20bcad171af5ccd19ad0d4e", func := "frustum/frustumlaw02.MinifloatZero", spec := "minifloatZero", apart := false }
def MinifloatZeroSaid : Prop := minifloatZeroRow.holds Try.pinned (OpenSpec.ofChange minifloatZeroSpec)

/-- ITS FALSE NEIGHBOUR: 'it returns false'. Refute it at one input. -/
def minifloatZeroWrong : ChangeSpec := { name := "minifloatZero", fn := fun _ => fun
  | [d1, d2] => { results := [.lit (.bool false)], args := [d1, d2] }
  | _ => none }
def MinifloatZeroWrongFalsely : Prop := minifloatZeroRow.holds Try.pinned (OpenSpec.ofChange minifloatZeroWrong)

/-- 'frustumlaw02.MinifloatMonotonic': WHATEVER THE INPUT: true; the input reads as it did. -/
def minifloatMonotonicSpec : ChangeSpec := { name := "minifloatMonotonic", fn := fun _ => fun
  | [d1, d2, d3] => { results := [.lit (.bool true)], args := [d1, d2, d3] }
  | _ => none }
def minifloatMonotonicRow : OpenClaim := { program := "ytpbciedbdooleaa", sum := "59ea1678614e7b6a6cd447dcccfdfd0f38b2b9b8c20bcad171af5ccd19ad0d4e", func := "frustum/frustumlaw02.MinifloatMonotonic", spec := "minifloatMonotonic", apart := false }
def MinifloatMonotonicSaid : Prop := minifloatMonotonicRow.holds Try.pinned (OpenSpec.ofChange minifloatMonotonicSpec)

/-- ITS FALSE NEIGHBOUR: 'it returns false'. Refute it at one input. -/
def minifloatMonotonicWrong : ChangeSpec := { name := "minifloatMonotonic", fn := fun _ => fun
  | [d1, d2, d3] => { results := [.lit (.bool false)], args := [d1, d2, d3] }
  | _ => none }
def MinifloatMonotonicWrongFalsely : Prop := minifloatMonotonicRow.holds Try.pinned (OpenSpec.ofChange minifloatMonotonicWrong)

/-- 'frustumlaw02.MinifloatIdempotent': WHATEVER THE INPUT: true; the input reads as it did. -/
def minifloatIdempotentSpec : ChangeSpec := { name := "minifloatIdempotent", fn := fun _ => fun
  | [d] => { results := [.lit (.bool true)], args := [d] }
  | _ => none }
def minifloatIdempotentRow : OpenClaim := { program := "ytpbciedbdooleaa", sum := "59ea1678614e7b6a6cd447dcccfdfd0f38b2b9b8c20bcad171af5ccd19ad0d4e", func := "frustum/frustumlaw02.MinifloatIdempotent", spec := "minifloatIdempotent", apart := false }
def MinifloatIdempotentSaid : Prop := minifloatIdempotentRow.holds Try.pinned (OpenSpec.ofChange minifloatIdempotentSpec)

/-- ITS FALSE NEIGHBOUR: 'it returns false'. Refute it at one input. -/
def minifloatIdempotentWrong : ChangeSpec := { name := "minifloatIdempotent", fn := fun _ => fun
  | [d] => { results := [.lit (.bool false)], args := [d] }
  | _ => none }
def MinifloatIdempotentWrongFalsely : Prop := minifloatIdempotentRow.holds Try.pinned (OpenSpec.ofChange minifloatIdempotentWrong)

/-- 'frustumlaw02.MinifloatNearest': WHATEVER THE INPUT: true; the input reads as it did. -/
def minifloatNearestSpec : ChangeSpec := { name := "minifloatNearest", fn := fun _ => fun
  | [d1, d2, d3] => { results := [.lit (.bool true)], args := [d1, d2, d3] }
  | _ => none }
def minifloatNearestRow : OpenClaim := { program := "ytpbciedbdooleaa", sum := "59ea1678614e7b6a6cd447dcccfdfd0f38b2b9b8c20bcad171af5ccd19ad0d4e", func := "frustum/frustumlaw02.MinifloatNearest", spec := "minifloatNearest", apart := false }
def MinifloatNearestSaid : Prop := minifloatNearestRow.holds Try.pinned (OpenSpec.ofChange minifloatNearestSpec)

/-- ITS FALSE NEIGHBOUR: 'it returns false'. Refute it at one input. -/
def minifloatNearestWrong : ChangeSpec := { name := "minifloatNearest", fn := fun _ => fun
  | [d1, d2, d3] => { results := [.lit (.bool false)], args := [d1, d2, d3] }
  | _ => none }
def MinifloatNearestWrongFalsely : Prop := minifloatNearestRow.holds Try.pinned (OpenSpec.ofChange minifloatNearestWrong)

/- THE SECOND FORM. 'bulk': how many values and letters a reading holds, each counted each time it is reached (what is shared counts as often as it is met; a slice's spare places count too). A statement '..UptoSaid' is the law's where the arguments, and the package variables that the reading takes, are together of bulk at most 1048576: NARROWER than '..Said'. Prove '..Said' where nothing that the law and all that it calls make is longer than what came in: it says more and counts as full. Else prove '..UptoSaid'. A law counts once. -/
mutual
def uptoBulk {H : Type} : DataW H → Nat
  | .lit (.string bytes) => bytes.length + 1
  | .lit _ => 1
  | .nil => 1
  | .ptr d => uptoBulk d + 1
  | .slice elems spare => uptoBulkAll elems + uptoBulkAll spare + 1
  | .agg parts => uptoBulkAll parts + 1
  | .iface _ d => uptoBulk d + 1
  | .map entries => uptoBulkEntries entries + 1
  | .held _ => 1
def uptoBulkAll {H : Type} : List (DataW H) → Nat
  | [] => 0
  | d :: r => uptoBulk d + uptoBulkAll r
def uptoBulkEntries {H : Type} : List (Lit × DataW H) → Nat
  | [] => 0
  | x :: r => uptoBulkEntry x + uptoBulkEntries r
def uptoBulkEntry {H : Type} : Lit × DataW H → Nat
  | (.string bytes, d) => bytes.length + uptoBulk d + 1
  | (_, d) => uptoBulk d + 1
 end
def uptoSmall : (H : Type) → List (DataW H) → Bool := fun _ ds => decide (uptoBulkAll ds ≤ 1048576)
def OpenSpec.upto (s : _root_.Go.ChangeSpec) : _root_.Go.OpenSpec := { _root_.Go.OpenSpec.ofChange s with cond := some uptoSmall }

/-- 'frustumlaw02.MinifloatFormats', WHERE WHAT IT READS IS OF BULK AT MOST 1048576: true; the input reads as it did. -/
def minifloatFormatsUptoRow : OpenClaim := { program := "ytpbciedbdooleaa", sum := "59ea1678614e7b6a6cd447dcccfdfd0f38b2b9b8c20bcad171af5ccd19ad0d4e", func := "frustum/frustumlaw02.MinifloatFormats", spec := "minifloatFormats", apart := false, narrowed := true }
def MinifloatFormatsUptoSaid : Prop := minifloatFormatsUptoRow.holds Try.pinned (OpenSpec.upto minifloatFormatsSpec)

/-- 'frustumlaw02.MinifloatDecodes', WHERE WHAT IT READS IS OF BULK AT MOST 1048576: true; the input reads as it did. -/
def minifloatDecodesUptoRow : OpenClaim := { program := "ytpbciedbdooleaa", sum := "59ea1678614e7b6a6cd447dcccfdfd0f38b2b9b8c20bcad171af5ccd19ad0d4e", func := "frustum/frustumlaw02.MinifloatDecodes", spec := "minifloatDecodes", apart := false, narrowed := true }
def MinifloatDecodesUptoSaid : Prop := minifloatDecodesUptoRow.holds Try.pinned (OpenSpec.upto minifloatDecodesSpec)

/-- 'frustumlaw02.MinifloatEncodes', WHERE WHAT IT READS IS OF BULK AT MOST 1048576: true; the input reads as it did. -/
def minifloatEncodesUptoRow : OpenClaim := { program := "ytpbciedbdooleaa", sum := "59ea1678614e7b6a6cd447dcccfdfd0f38b2b9b8c20bcad171af5ccd19ad0d4e", func := "frustum/frustumlaw02.MinifloatEncodes", spec := "minifloatEncodes", apart := false, narrowed := true }
def MinifloatEncodesUptoSaid : Prop := minifloatEncodesUptoRow.holds Try.pinned (OpenSpec.upto minifloatEncodesSpec)

/-- 'frustumlaw02.MinifloatRoundTrip', WHERE WHAT IT READS IS OF BULK AT MOST 1048576: true; the input reads as it did. -/
def minifloatRoundTripUptoRow : OpenClaim := { program := "ytpbciedbdooleaa", sum := "59ea1678614e7b6a6cd447dcccfdfd0f38b2b9b8c20bcad171af5ccd19ad0d4e", func := "frustum/frustumlaw02.MinifloatRoundTrip", spec := "minifloatRoundTrip", apart := false, narrowed := true }
def MinifloatRoundTripUptoSaid : Prop := minifloatRoundTripUptoRow.holds Try.pinned (OpenSpec.upto minifloatRoundTripSpec)

/-- 'frustumlaw02.MinifloatZero', WHERE WHAT IT READS IS OF BULK AT MOST 1048576: true; the input reads as it did. -/
def minifloatZeroUptoRow : OpenClaim := { program := "ytpbciedbdooleaa", sum := "59ea1678614e7b6a6cd447dcccfdfd0f38b2b9b8c20bcad171af5ccd19ad0d4e", func := "frustum/frustumlaw02.MinifloatZero", spec := "minifloatZero", apart := false, narrowed := true }
def MinifloatZeroUptoSaid : Prop := minifloatZeroUptoRow.holds Try.pinned (OpenSpec.upto minifloatZeroSpec)

/-- 'frustumlaw02.MinifloatMonotonic', WHERE WHAT IT READS IS OF BULK AT MOST 1048576: true; the input reads as it did. -/
def minifloatMonotonicUptoRow : OpenClaim := { program := "ytpbciedbdooleaa", sum := "59ea1678614e7b6a6cd447dcccfdfd0f38b2b9b8c20bcad171af5ccd19ad0d4e", func := "frustum/frustumlaw02.MinifloatMonotonic", spec := "minifloatMonotonic", apart := false, narrowed := true }
def MinifloatMonotonicUptoSaid : Prop := minifloatMonotonicUptoRow.holds Try.pinned (OpenSpec.upto minifloatMonotonicSpec)

/-- 'frustumlaw02.MinifloatIdempotent', WHERE WHAT IT READS IS OF BULK AT MOST 1048576: true; the input reads as it did. -/
def minifloatIdempotentUptoRow : OpenClaim := { program := "ytpbciedbdooleaa", sum := "59ea1678614e7b6a6cd447dcccfdfd0f38b2b9b8c20bcad171af5ccd19ad0d4e", func := "frustum/frustumlaw02.MinifloatIdempotent", spec := "minifloatIdempotent", apart := false, narrowed := true }
def MinifloatIdempotentUptoSaid : Prop := minifloatIdempotentUptoRow.holds Try.pinned (OpenSpec.upto minifloatIdempotentSpec)

/-- 'frustumlaw02.MinifloatNearest', WHERE WHAT IT READS IS OF BULK AT MOST 1048576: true; the input reads as it did. -/
def minifloatNearestUptoRow : OpenClaim := { program := "ytpbciedbdooleaa", sum := "59ea1678614e7b6a6cd447dcccfdfd0f38b2b9b8c20bcad171af5ccd19ad0d4e", func := "frustum/frustumlaw02.MinifloatNearest", spec := "minifloatNearest", apart := false, narrowed := true }
def MinifloatNearestUptoSaid : Prop := minifloatNearestUptoRow.holds Try.pinned (OpenSpec.upto minifloatNearestSpec)

end Rows
end Go.Proofs.Ytpbciedbdooleaa
