/-
  No cell of these rows narrows 'for every input' (looked for: loops, veiled, ifaces, maps, wideKeys, modest, calm, conditions, laid).
  DERIVED. THE GIVEN ROWS OF THIS SEAT. 6 by the template 'for every input the law returns true; each argument reads behind the call as it read before'; 0 by the template 'total and deterministic' (their statements: YtcjlgfadjedgbaaTotals.lean).
  GIVEN WITH THE SEED: the statements are not yours to turn. If you find one false, say at which input.
  Laid BY PROGRAM, IN A SANDBOX (cutbox-rows.mjs): the forced cells as the released guide's own fill.sh prints them over the translation 09638ddb511d456d… (all of the seat's roots in one cut). By AI agents, Wed Nov 11 2026. No macro, syntax, notation, axiom, sorry.
-/
import Derived.Test.YtcjlgfadjedgbaaChecked
import GoSem.Claim
import GoSem.ClaimJoined
import GoSem.ClaimMapViews
import Derived.JoinedTies
import Derived.KernelRfl
namespace Go.Proofs.Ytcjlgfadjedgbaa
/- THE CELL 'sum', in the pinned program and in every row, IS THE sha256 OF THE DUMP (.gsa) THAT YtcjlgfadjedgbaaProg.lean LOADS. Nothing in Lean hashes anything: it is a label: what it is worth is what the hold of that sum in a sandbox is worth. -/
noncomputable def Try.pinned : Pinned := { name := "ytcjlgfadjedgbaa", sum := "09638ddb511d456d61673bd3037008a2cfe734e08a2d3b08cf96130c0462ae75", checked := Try.checked }
namespace Rows
def none {H : Type} : Left H := { results := [], args := [] }

/-- 'frustumlaw12.MipmapChain': WHATEVER THE INPUT: true; the input reads as it did. -/
def mipmapChainSpec : ChangeSpec := { name := "mipmapChain", fn := fun _ => fun
  | [d] => { results := [.lit (.bool true)], args := [d] }
  | _ => none }
def mipmapChainRow : OpenClaim := { program := "ytcjlgfadjedgbaa", sum := "09638ddb511d456d61673bd3037008a2cfe734e08a2d3b08cf96130c0462ae75", func := "frustum/frustumlaw12.MipmapChain", spec := "mipmapChain", recurses := true, apart := false }
def MipmapChainSaid : Prop := mipmapChainRow.holds Try.pinned (OpenSpec.ofChange mipmapChainSpec)

/-- ITS FALSE NEIGHBOUR: 'it returns false'. Refute it at one input. -/
def mipmapChainWrong : ChangeSpec := { name := "mipmapChain", fn := fun _ => fun
  | [d] => { results := [.lit (.bool false)], args := [d] }
  | _ => none }
def MipmapChainWrongFalsely : Prop := mipmapChainRow.holds Try.pinned (OpenSpec.ofChange mipmapChainWrong)

/-- 'frustumlaw12.MipmapSizes': WHATEVER THE INPUT: true; the input reads as it did. -/
def mipmapSizesSpec : ChangeSpec := { name := "mipmapSizes", fn := fun _ => fun
  | [d1, d2, d3] => { results := [.lit (.bool true)], args := [d1, d2, d3] }
  | _ => none }
def mipmapSizesRow : OpenClaim := { program := "ytcjlgfadjedgbaa", sum := "09638ddb511d456d61673bd3037008a2cfe734e08a2d3b08cf96130c0462ae75", func := "frustum/frustumlaw12.MipmapSizes", spec := "mipmapSizes", apart := false }
def MipmapSizesSaid : Prop := mipmapSizesRow.holds Try.pinned (OpenSpec.ofChange mipmapSizesSpec)

/-- ITS FALSE NEIGHBOUR: 'it returns false'. Refute it at one input. -/
def mipmapSizesWrong : ChangeSpec := { name := "mipmapSizes", fn := fun _ => fun
  | [d1, d2, d3] => { results := [.lit (.bool false)], args := [d1, d2, d3] }
  | _ => none }
def MipmapSizesWrongFalsely : Prop := mipmapSizesRow.holds Try.pinned (OpenSpec.ofChange mipmapSizesWrong)

/-- 'frustumlaw12.MipmapReduce': WHATEVER THE INPUT: true; the input reads as it did. -/
def mipmapReduceSpec : ChangeSpec := { name := "mipmapReduce", fn := fun _ => fun
  | [d] => { results := [.lit (.bool true)], args := [d] }
  | _ => none }
def mipmapReduceRow : OpenClaim := { program := "ytcjlgfadjedgbaa", sum := "09638ddb511d456d61673bd3037008a2cfe734e08a2d3b08cf96130c0462ae75", func := "frustum/frustumlaw12.MipmapReduce", spec := "mipmapReduce", recurses := true, apart := false }
def MipmapReduceSaid : Prop := mipmapReduceRow.holds Try.pinned (OpenSpec.ofChange mipmapReduceSpec)

/-- ITS FALSE NEIGHBOUR: 'it returns false'. Refute it at one input. -/
def mipmapReduceWrong : ChangeSpec := { name := "mipmapReduce", fn := fun _ => fun
  | [d] => { results := [.lit (.bool false)], args := [d] }
  | _ => none }
def MipmapReduceWrongFalsely : Prop := mipmapReduceRow.holds Try.pinned (OpenSpec.ofChange mipmapReduceWrong)

/-- 'frustumlaw12.MipmapValid': WHATEVER THE INPUT: true; the input reads as it did. -/
def mipmapValidSpec : ChangeSpec := { name := "mipmapValid", fn := fun _ => fun
  | [d] => { results := [.lit (.bool true)], args := [d] }
  | _ => none }
def mipmapValidRow : OpenClaim := { program := "ytcjlgfadjedgbaa", sum := "09638ddb511d456d61673bd3037008a2cfe734e08a2d3b08cf96130c0462ae75", func := "frustum/frustumlaw12.MipmapValid", spec := "mipmapValid", apart := false }
def MipmapValidSaid : Prop := mipmapValidRow.holds Try.pinned (OpenSpec.ofChange mipmapValidSpec)

/-- ITS FALSE NEIGHBOUR: 'it returns false'. Refute it at one input. -/
def mipmapValidWrong : ChangeSpec := { name := "mipmapValid", fn := fun _ => fun
  | [d] => { results := [.lit (.bool false)], args := [d] }
  | _ => none }
def MipmapValidWrongFalsely : Prop := mipmapValidRow.holds Try.pinned (OpenSpec.ofChange mipmapValidWrong)

/-- 'frustumlaw12.MipmapGet': WHATEVER THE INPUT: true; the input reads as it did. -/
def mipmapGetSpec : ChangeSpec := { name := "mipmapGet", fn := fun _ => fun
  | [d1, d2, d3] => { results := [.lit (.bool true)], args := [d1, d2, d3] }
  | _ => none }
def mipmapGetRow : OpenClaim := { program := "ytcjlgfadjedgbaa", sum := "09638ddb511d456d61673bd3037008a2cfe734e08a2d3b08cf96130c0462ae75", func := "frustum/frustumlaw12.MipmapGet", spec := "mipmapGet", unfollowed := true, recurses := true, apart := false }
def MipmapGetSaid : Prop := mipmapGetRow.holds Try.pinned (OpenSpec.ofChange mipmapGetSpec)

/-- ITS FALSE NEIGHBOUR: 'it returns false'. Refute it at one input. -/
def mipmapGetWrong : ChangeSpec := { name := "mipmapGet", fn := fun _ => fun
  | [d1, d2, d3] => { results := [.lit (.bool false)], args := [d1, d2, d3] }
  | _ => none }
def MipmapGetWrongFalsely : Prop := mipmapGetRow.holds Try.pinned (OpenSpec.ofChange mipmapGetWrong)

/-- 'frustumlaw12.MipmapConstant': WHATEVER THE INPUT: true; the input reads as it did. -/
def mipmapConstantSpec : ChangeSpec := { name := "mipmapConstant", fn := fun _ => fun
  | [d1, d2, d3] => { results := [.lit (.bool true)], args := [d1, d2, d3] }
  | _ => none }
def mipmapConstantRow : OpenClaim := { program := "ytcjlgfadjedgbaa", sum := "09638ddb511d456d61673bd3037008a2cfe734e08a2d3b08cf96130c0462ae75", func := "frustum/frustumlaw12.MipmapConstant", spec := "mipmapConstant", recurses := true, apart := false }
def MipmapConstantSaid : Prop := mipmapConstantRow.holds Try.pinned (OpenSpec.ofChange mipmapConstantSpec)

/-- ITS FALSE NEIGHBOUR: 'it returns false'. Refute it at one input. -/
def mipmapConstantWrong : ChangeSpec := { name := "mipmapConstant", fn := fun _ => fun
  | [d1, d2, d3] => { results := [.lit (.bool false)], args := [d1, d2, d3] }
  | _ => none }
def MipmapConstantWrongFalsely : Prop := mipmapConstantRow.holds Try.pinned (OpenSpec.ofChange mipmapConstantWrong)

/- THE SECOND FORM. 'bulk': how many values and letters a reading holds, each counted each time it is reached (what is shared counts as often as it is met; a slice's spare places count too). A statement '..UptoSaid' is the law's where the arguments, and the package variables that the reading takes, are together of bulk at most 1048576: NARROWER than '..Said'. Prove '..Said' where nothing that the law and all that it calls make is longer than what came in: it says more and counts as full. Else prove '..UptoSaid'. A law counts once. -/
mutual
def uptoBulk {H : Type} : DataW H → Nat
  | .lit (.string bytes) => bytes.length + 1
  | .lit _ => 1
  | .nil => 1
  | .ptr d => uptoBulk d + 1
  | .slice elems spare => uptoBulkAll elems + uptoBulkAll spare + 1
  | .agg parts => uptoBulkAll parts + 1
  | .iface _ d => uptoBulk d + 1
  | .map entries => uptoBulkEntries entries + 1
  | .held _ => 1
def uptoBulkAll {H : Type} : List (DataW H) → Nat
  | [] => 0
  | d :: r => uptoBulk d + uptoBulkAll r
def uptoBulkEntries {H : Type} : List (Lit × DataW H) → Nat
  | [] => 0
  | x :: r => uptoBulkEntry x + uptoBulkEntries r
def uptoBulkEntry {H : Type} : Lit × DataW H → Nat
  | (.string bytes, d) => bytes.length + uptoBulk d + 1
  | (_, d) => uptoBulk d + 1
 end
def uptoSmall : (H : Type) → List (DataW H) → Bool := fun _ ds => decide (uptoBulkAll ds ≤ 1048576)
def OpenSpec.upto (s : _root_.Go.ChangeSpec) : _root_.Go.OpenSpec := { _root_.Go.OpenSpec.ofChange s with cond := some uptoSmall }

/-- 'frustumlaw12.MipmapChain', WHERE WHAT IT READS IS OF BULK AT MOST 1048576: true; the input reads as it did. -/
def mipmapChainUptoRow : OpenClaim := { program := "ytcjlgfadjedgbaa", sum := "09638ddb511d456d61673bd3037008a2cfe734e08a2d3b08cf96130c0462ae75", func := "frustum/frustumlaw12.MipmapChain", spec := "mipmapChain", recurses := true, apart := false, narrowed := true }
def MipmapChainUptoSaid : Prop := mipmapChainUptoRow.holds Try.pinned (OpenSpec.upto mipmapChainSpec)

/-- 'frustumlaw12.MipmapSizes', WHERE WHAT IT READS IS OF BULK AT MOST 1048576: true; the input reads as it did. -/
def mipmapSizesUptoRow : OpenClaim := { program := "ytcjlgfadjedgbaa", sum := "09638ddb511d456d61673bd3037008a2cfe734e08a2d3b08cf96130c0462ae75", func := "frustum/frustumlaw12.MipmapSizes", spec := "mipmapSizes", apart := false, narrowed := true }
def MipmapSizesUptoSaid : Prop := mipmapSizesUptoRow.holds Try.pinned (OpenSpec.upto mipmapSizesSpec)

/-- 'frustumlaw12.MipmapReduce', WHERE WHAT IT READS IS OF BULK AT MOST 1048576: true; the input reads as it did. -/
def mipmapReduceUptoRow : OpenClaim := { program := "ytcjlgfadjedgbaa", sum := "09638ddb511d456d61673bd3037008a2cfe734e08a2d3b08cf96130c0462ae75", func := "frustum/frustumlaw12.MipmapReduce", spec := "mipmapReduce", recurses := true, apart := false, narrowed := true }
def MipmapReduceUptoSaid : Prop := mipmapReduceUptoRow.holds Try.pinned (OpenSpec.upto mipmapReduceSpec)

/-- 'frustumlaw12.MipmapValid', WHERE WHAT IT READS IS OF BULK AT MOST 1048576: true; the input reads as it did. -/
def mipmapValidUptoRow : OpenClaim := { program := "ytcjlgfadjedgbaa", sum := "09638ddb511d456d61673bd3037008a2cfe734e08a2d3b08cf96130c0462ae75", func := "frustum/frustumlaw12.MipmapValid", spec := "mipmapValid", apart := false, narrowed := true }
def MipmapValidUptoSaid : Prop := mipmapValidUptoRow.holds Try.pinned (OpenSpec.upto mipmapValidSpec)

/-- 'frustumlaw12.MipmapGet', WHERE WHAT IT READS IS OF BULK AT MOST 1048576: true; the input reads as it did. -/
def mipmapGetUptoRow : OpenClaim := { program := "ytcjlgfadjedgbaa", sum := "09638ddb511d456d61673bd3037008a2cfe734e08a2d3b08cf96130c0462ae75", func := "frustum/frustumlaw12.MipmapGet", spec := "mipmapGet", unfollowed := true, recurses := true, apart := false, narrowed := true }
def MipmapGetUptoSaid : Prop := mipmapGetUptoRow.holds Try.pinned (OpenSpec.upto mipmapGetSpec)

/-- 'frustumlaw12.MipmapConstant', WHERE WHAT IT READS IS OF BULK AT MOST 1048576: true; the input reads as it did. -/
def mipmapConstantUptoRow : OpenClaim := { program := "ytcjlgfadjedgbaa", sum := "09638ddb511d456d61673bd3037008a2cfe734e08a2d3b08cf96130c0462ae75", func := "frustum/frustumlaw12.MipmapConstant", spec := "mipmapConstant", recurses := true, apart := false, narrowed := true }
def MipmapConstantUptoSaid : Prop := mipmapConstantUptoRow.holds Try.pinned (OpenSpec.upto mipmapConstantSpec)

end Rows
end Go.Proofs.Ytcjlgfadjedgbaa
