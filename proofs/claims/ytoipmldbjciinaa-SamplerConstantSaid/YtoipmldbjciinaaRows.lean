/-
  No cell of these rows narrows 'for every input' (looked for: loops, veiled, ifaces, maps, wideKeys, modest, calm, conditions, laid).
  DERIVED. THE GIVEN ROWS OF THIS SEAT. 5 by the template 'for every input the law returns true; each argument reads behind the call as it read before'; 0 by the template 'total and deterministic' (their statements: YtoipmldbjciinaaTotals.lean).
  GIVEN WITH THE SEED: the statements are not yours to turn. If you find one false, say at which input.
  Laid BY PROGRAM, IN A SANDBOX (cutbox-rows.mjs): the forced cells as the released guide's own fill.sh prints them over the translation 264f3ef3b3016cd1… (all of the seat's roots in one cut). By AI agents, Wed Nov 11 2026. No macro, syntax, notation, axiom, sorry.
-/
import Derived.Test.YtoipmldbjciinaaChecked
import GoSem.Claim
import GoSem.ClaimJoined
import GoSem.ClaimMapViews
import Derived.JoinedTies
import Derived.KernelRfl
namespace Go.Proofs.Ytoipmldbjciinaa
/- THE CELL 'sum', in the pinned program and in every row, IS THE sha256 OF THE DUMP (.gsa) THAT YtoipmldbjciinaaProg.lean LOADS. Nothing in Lean hashes anything: it is a label: what it is worth is what the hold of that sum in a sandbox is worth. -/
noncomputable def Try.pinned : Pinned := { name := "ytoipmldbjciinaa", sum := "264f3ef3b3016cd19f936404089cbddfe79a5e19b39c12e38aeb9531ac66f532", checked := Try.checked }
namespace Rows
def none {H : Type} : Left H := { results := [], args := [] }

/-- 'frustumlaw13.SamplerLevels': WHATEVER THE INPUT: true; the input reads as it did. -/
def samplerLevelsSpec : ChangeSpec := { name := "samplerLevels", fn := fun _ => fun
  | [d1, d2, d3] => { results := [.lit (.bool true)], args := [d1, d2, d3] }
  | _ => none }
def samplerLevelsRow : OpenClaim := { program := "ytoipmldbjciinaa", sum := "264f3ef3b3016cd19f936404089cbddfe79a5e19b39c12e38aeb9531ac66f532", func := "frustum/frustumlaw13.SamplerLevels", spec := "samplerLevels", unfollowed := true, recurses := true, apart := false }
def SamplerLevelsSaid : Prop := samplerLevelsRow.holds Try.pinned (OpenSpec.ofChange samplerLevelsSpec)

/-- ITS FALSE NEIGHBOUR: 'it returns false'. Refute it at one input. -/
def samplerLevelsWrong : ChangeSpec := { name := "samplerLevels", fn := fun _ => fun
  | [d1, d2, d3] => { results := [.lit (.bool false)], args := [d1, d2, d3] }
  | _ => none }
def SamplerLevelsWrongFalsely : Prop := samplerLevelsRow.holds Try.pinned (OpenSpec.ofChange samplerLevelsWrong)

/-- 'frustumlaw13.SamplerConstant': WHATEVER THE INPUT: true; the input reads as it did. -/
def samplerConstantSpec : ChangeSpec := { name := "samplerConstant", fn := fun _ => fun
  | [d1, d2, d3] => { results := [.lit (.bool true)], args := [d1, d2, d3] }
  | _ => none }
def samplerConstantRow : OpenClaim := { program := "ytoipmldbjciinaa", sum := "264f3ef3b3016cd19f936404089cbddfe79a5e19b39c12e38aeb9531ac66f532", func := "frustum/frustumlaw13.SamplerConstant", spec := "samplerConstant", unfollowed := true, recurses := true, apart := false }
def SamplerConstantSaid : Prop := samplerConstantRow.holds Try.pinned (OpenSpec.ofChange samplerConstantSpec)

/-- ITS FALSE NEIGHBOUR: 'it returns false'. Refute it at one input. -/
def samplerConstantWrong : ChangeSpec := { name := "samplerConstant", fn := fun _ => fun
  | [d1, d2, d3] => { results := [.lit (.bool false)], args := [d1, d2, d3] }
  | _ => none }
def SamplerConstantWrongFalsely : Prop := samplerConstantRow.holds Try.pinned (OpenSpec.ofChange samplerConstantWrong)

/-- 'frustumlaw13.SamplerNearest': WHATEVER THE INPUT: true; the input reads as it did. -/
def samplerNearestSpec : ChangeSpec := { name := "samplerNearest", fn := fun _ => fun
  | [d1, d2, d3] => { results := [.lit (.bool true)], args := [d1, d2, d3] }
  | _ => none }
def samplerNearestRow : OpenClaim := { program := "ytoipmldbjciinaa", sum := "264f3ef3b3016cd19f936404089cbddfe79a5e19b39c12e38aeb9531ac66f532", func := "frustum/frustumlaw13.SamplerNearest", spec := "samplerNearest", unfollowed := true, recurses := true, apart := false }
def SamplerNearestSaid : Prop := samplerNearestRow.holds Try.pinned (OpenSpec.ofChange samplerNearestSpec)

/-- ITS FALSE NEIGHBOUR: 'it returns false'. Refute it at one input. -/
def samplerNearestWrong : ChangeSpec := { name := "samplerNearest", fn := fun _ => fun
  | [d1, d2, d3] => { results := [.lit (.bool false)], args := [d1, d2, d3] }
  | _ => none }
def SamplerNearestWrongFalsely : Prop := samplerNearestRow.holds Try.pinned (OpenSpec.ofChange samplerNearestWrong)

/-- 'frustumlaw13.SamplerLinearGrid': WHATEVER THE INPUT: true; the input reads as it did. -/
def samplerLinearGridSpec : ChangeSpec := { name := "samplerLinearGrid", fn := fun _ => fun
  | [d1, d2, d3] => { results := [.lit (.bool true)], args := [d1, d2, d3] }
  | _ => none }
def samplerLinearGridRow : OpenClaim := { program := "ytoipmldbjciinaa", sum := "264f3ef3b3016cd19f936404089cbddfe79a5e19b39c12e38aeb9531ac66f532", func := "frustum/frustumlaw13.SamplerLinearGrid", spec := "samplerLinearGrid", unfollowed := true, recurses := true, apart := false }
def SamplerLinearGridSaid : Prop := samplerLinearGridRow.holds Try.pinned (OpenSpec.ofChange samplerLinearGridSpec)

/-- ITS FALSE NEIGHBOUR: 'it returns false'. Refute it at one input. -/
def samplerLinearGridWrong : ChangeSpec := { name := "samplerLinearGrid", fn := fun _ => fun
  | [d1, d2, d3] => { results := [.lit (.bool false)], args := [d1, d2, d3] }
  | _ => none }
def SamplerLinearGridWrongFalsely : Prop := samplerLinearGridRow.holds Try.pinned (OpenSpec.ofChange samplerLinearGridWrong)

/-- 'frustumlaw13.SamplerLog2Bounds': WHATEVER THE INPUT: true; the input reads as it did. -/
def samplerLog2BoundsSpec : ChangeSpec := { name := "samplerLog2Bounds", fn := fun _ => fun
  | [d1, d2, d3] => { results := [.lit (.bool true)], args := [d1, d2, d3] }
  | _ => none }
def samplerLog2BoundsRow : OpenClaim := { program := "ytoipmldbjciinaa", sum := "264f3ef3b3016cd19f936404089cbddfe79a5e19b39c12e38aeb9531ac66f532", func := "frustum/frustumlaw13.SamplerLog2Bounds", spec := "samplerLog2Bounds", unfollowed := true, recurses := true, apart := false }
def SamplerLog2BoundsSaid : Prop := samplerLog2BoundsRow.holds Try.pinned (OpenSpec.ofChange samplerLog2BoundsSpec)

/-- ITS FALSE NEIGHBOUR: 'it returns false'. Refute it at one input. -/
def samplerLog2BoundsWrong : ChangeSpec := { name := "samplerLog2Bounds", fn := fun _ => fun
  | [d1, d2, d3] => { results := [.lit (.bool false)], args := [d1, d2, d3] }
  | _ => none }
def SamplerLog2BoundsWrongFalsely : Prop := samplerLog2BoundsRow.holds Try.pinned (OpenSpec.ofChange samplerLog2BoundsWrong)

/- THE SECOND FORM. 'bulk': how many values and letters a reading holds, each counted each time it is reached (what is shared counts as often as it is met; a slice's spare places count too). A statement '..UptoSaid' is the law's where the arguments, and the package variables that the reading takes, are together of bulk at most 1048576: NARROWER than '..Said'. Prove '..Said' where nothing that the law and all that it calls make is longer than what came in: it says more and counts as full. Else prove '..UptoSaid'. A law counts once. -/
mutual
def uptoBulk {H : Type} : DataW H → Nat
  | .lit (.string bytes) => bytes.length + 1
  | .lit _ => 1
  | .nil => 1
  | .ptr d => uptoBulk d + 1
  | .slice elems spare => uptoBulkAll elems + uptoBulkAll spare + 1
  | .agg parts => uptoBulkAll parts + 1
  | .iface _ d => uptoBulk d + 1
  | .map entries => uptoBulkEntries entries + 1
  | .held _ => 1
def uptoBulkAll {H : Type} : List (DataW H) → Nat
  | [] => 0
  | d :: r => uptoBulk d + uptoBulkAll r
def uptoBulkEntries {H : Type} : List (Lit × DataW H) → Nat
  | [] => 0
  | x :: r => uptoBulkEntry x + uptoBulkEntries r
def uptoBulkEntry {H : Type} : Lit × DataW H → Nat
  | (.string bytes, d) => bytes.length + uptoBulk d + 1
  | (_, d) => uptoBulk d + 1
 end
def uptoSmall : (H : Type) → List (DataW H) → Bool := fun _ ds => decide (uptoBulkAll ds ≤ 1048576)
def OpenSpec.upto (s : _root_.Go.ChangeSpec) : _root_.Go.OpenSpec := { _root_.Go.OpenSpec.ofChange s with cond := some uptoSmall }

/-- 'frustumlaw13.SamplerLevels', WHERE WHAT IT READS IS OF BULK AT MOST 1048576: true; the input reads as it did. -/
def samplerLevelsUptoRow : OpenClaim := { program := "ytoipmldbjciinaa", sum := "264f3ef3b3016cd19f936404089cbddfe79a5e19b39c12e38aeb9531ac66f532", func := "frustum/frustumlaw13.SamplerLevels", spec := "samplerLevels", unfollowed := true, recurses := true, apart := false, narrowed := true }
def SamplerLevelsUptoSaid : Prop := samplerLevelsUptoRow.holds Try.pinned (OpenSpec.upto samplerLevelsSpec)

/-- 'frustumlaw13.SamplerConstant', WHERE WHAT IT READS IS OF BULK AT MOST 1048576: true; the input reads as it did. -/
def samplerConstantUptoRow : OpenClaim := { program := "ytoipmldbjciinaa", sum := "264f3ef3b3016cd19f936404089cbddfe79a5e19b39c12e38aeb9531ac66f532", func := "frustum/frustumlaw13.SamplerConstant", spec := "samplerConstant", unfollowed := true, recurses := true, apart := false, narrowed := true }
def SamplerConstantUptoSaid : Prop := samplerConstantUptoRow.holds Try.pinned (OpenSpec.upto samplerConstantSpec)

/-- 'frustumlaw13.SamplerNearest', WHERE WHAT IT READS IS OF BULK AT MOST 1048576: true; the input reads as it did. -/
def samplerNearestUptoRow : OpenClaim := { program := "ytoipmldbjciinaa", sum := "264f3ef3b3016cd19f936404089cbddfe79a5e19b39c12e38aeb9531ac66f532", func := "frustum/frustumlaw13.SamplerNearest", spec := "samplerNearest", unfollowed := true, recurses := true, apart := false, narrowed := true }
def SamplerNearestUptoSaid : Prop := samplerNearestUptoRow.holds Try.pinned (OpenSpec.upto samplerNearestSpec)

/-- 'frustumlaw13.SamplerLinearGrid', WHERE WHAT IT READS IS OF BULK AT MOST 1048576: true; the input reads as it did. -/
def samplerLinearGridUptoRow : OpenClaim := { program := "ytoipmldbjciinaa", sum := "264f3ef3b3016cd19f936404089cbddfe79a5e19b39c12e38aeb9531ac66f532", func := "frustum/frustumlaw13.SamplerLinearGrid", spec := "samplerLinearGrid", unfollowed := true, recurses := true, apart := false, narrowed := true }
def SamplerLinearGridUptoSaid : Prop := samplerLinearGridUptoRow.holds Try.pinned (OpenSpec.upto samplerLinearGridSpec)

/-- 'frustumlaw13.SamplerLog2Bounds', WHERE WHAT IT READS IS OF BULK AT MOST 1048576: true; the input reads as it did. -/
def samplerLog2BoundsUptoRow : OpenClaim := { program := "ytoipmldbjciinaa", sum := "264f3ef3b3016cd19f936404089cbddfe79a5e19b39c12e38aeb9531ac66f532", func := "frustum/frustumlaw13.SamplerLog2Bounds", spec := "samplerLog2Bounds", unfollowed := true, recurses := true, apart := false, narrowed := true }
def SamplerLog2BoundsUptoSaid : Prop := samplerLog2BoundsUptoRow.holds Try.pinned (OpenSpec.upto samplerLog2BoundsSpec)

end Rows
end Go.Proofs.Ytoipmldbjciinaa
