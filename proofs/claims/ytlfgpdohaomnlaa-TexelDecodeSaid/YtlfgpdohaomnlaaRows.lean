/-
  No cell of these rows narrows 'for every input' (looked for: loops, veiled, ifaces, maps, wideKeys, modest, calm, conditions, laid).
  DERIVED. THE GIVEN ROWS OF THIS SEAT. 6 by the template 'for every input the law returns true; each argument reads behind the call as it read before'; 0 by the template 'total and deterministic' (their statements: YtlfgpdohaomnlaaTotals.lean).
  GIVEN WITH THE SEED: the statements are not yours to turn. If you find one false, say at which input.
  Laid BY PROGRAM, IN A SANDBOX (cutbox-rows.mjs): the forced cells as the released guide's own fill.sh prints them over the translation 0e47808cb4b9738a… (all of the seat's roots in one cut). By AI agents, Wed Nov 11 2026. No macro, syntax, notation, axiom, sorry.
-/
import Derived.Test.YtlfgpdohaomnlaaChecked
import GoSem.Claim
import GoSem.ClaimJoined
import GoSem.ClaimMapViews
import Derived.JoinedTies
import Derived.KernelRfl
namespace Go.Proofs.Ytlfgpdohaomnlaa
/- THE CELL 'sum', in the pinned program and in every row, IS THE sha256 OF THE DUMP (.gsa) THAT YtlfgpdohaomnlaaProg.lean LOADS. Nothing in Lean hashes anything: it is a label: what it is worth is what the hold of that sum in a sandbox is worth. -/
noncomputable def Try.pinned : Pinned := { name := "ytlfgpdohaomnlaa", sum := "0e47808cb4b9738a5c03dc4444cdca312b1a57d0b0fe26c2f95999ab732476d8", checked := Try.checked }
namespace Rows
def none {H : Type} : Left H := { results := [], args := [] }

/-- 'frustumlaw09.TexelRoundTrip': WHATEVER THE INPUT: true; the input reads as it did. -/
def texelRoundTripSpec : ChangeSpec := { name := "texelRoundTrip", fn := fun _ => fun
  | [d1, d2, d3] => { results := [.lit (.bool true)], args := [d1, d2, d3] }
  | _ => none }
def texelRoundTripRow : OpenClaim := { program := "ytlfgpdohaomnlaa", sum := "0e47808cb4b9738a5c03dc4444cdca312b1a57d0b0fe26c2f95999ab732476d8", func := "frustum/frustumlaw09.TexelRoundTrip", spec := "texelRoundTrip", apart := false }
def TexelRoundTripSaid : Prop := texelRoundTripRow.holds Try.pinned (OpenSpec.ofChange texelRoundTripSpec)

/-- ITS FALSE NEIGHBOUR: 'it returns false'. Refute it at one input. -/
def texelRoundTripWrong : ChangeSpec := { name := "texelRoundTrip", fn := fun _ => fun
  | [d1, d2, d3] => { results := [.lit (.bool false)], args := [d1, d2, d3] }
  | _ => none }
def TexelRoundTripWrongFalsely : Prop := texelRoundTripRow.holds Try.pinned (OpenSpec.ofChange texelRoundTripWrong)

/-- 'frustumlaw09.TexelUNorm': WHATEVER THE INPUT: true; the input reads as it did. -/
def texelUNormSpec : ChangeSpec := { name := "texelUNorm", fn := fun _ => fun
  | [d1, d2] => { results := [.lit (.bool true)], args := [d1, d2] }
  | _ => none }
def texelUNormRow : OpenClaim := { program := "ytlfgpdohaomnlaa", sum := "0e47808cb4b9738a5c03dc4444cdca312b1a57d0b0fe26c2f95999ab732476d8", func := "frustum/frustumlaw09.TexelUNorm", spec := "texelUNorm", recurses := true, apart := false }
def TexelUNormSaid : Prop := texelUNormRow.holds Try.pinned (OpenSpec.ofChange texelUNormSpec)

/-- ITS FALSE NEIGHBOUR: 'it returns false'. Refute it at one input. -/
def texelUNormWrong : ChangeSpec := { name := "texelUNorm", fn := fun _ => fun
  | [d1, d2] => { results := [.lit (.bool false)], args := [d1, d2] }
  | _ => none }
def TexelUNormWrongFalsely : Prop := texelUNormRow.holds Try.pinned (OpenSpec.ofChange texelUNormWrong)

/-- 'frustumlaw09.TexelEncode': WHATEVER THE INPUT: true; the input reads as it did. -/
def texelEncodeSpec : ChangeSpec := { name := "texelEncode", fn := fun _ => fun
  | [d1, d2] => { results := [.lit (.bool true)], args := [d1, d2] }
  | _ => none }
def texelEncodeRow : OpenClaim := { program := "ytlfgpdohaomnlaa", sum := "0e47808cb4b9738a5c03dc4444cdca312b1a57d0b0fe26c2f95999ab732476d8", func := "frustum/frustumlaw09.TexelEncode", spec := "texelEncode", recurses := true, apart := false }
def TexelEncodeSaid : Prop := texelEncodeRow.holds Try.pinned (OpenSpec.ofChange texelEncodeSpec)

/-- ITS FALSE NEIGHBOUR: 'it returns false'. Refute it at one input. -/
def texelEncodeWrong : ChangeSpec := { name := "texelEncode", fn := fun _ => fun
  | [d1, d2] => { results := [.lit (.bool false)], args := [d1, d2] }
  | _ => none }
def TexelEncodeWrongFalsely : Prop := texelEncodeRow.holds Try.pinned (OpenSpec.ofChange texelEncodeWrong)

/-- 'frustumlaw09.TexelDecode': WHATEVER THE INPUT: true; the input reads as it did. -/
def texelDecodeSpec : ChangeSpec := { name := "texelDecode", fn := fun _ => fun
  | [d1, d2, d3] => { results := [.lit (.bool true)], args := [d1, d2, d3] }
  | _ => none }
def texelDecodeRow : OpenClaim := { program := "ytlfgpdohaomnlaa", sum := "0e47808cb4b9738a5c03dc4444cdca312b1a57d0b0fe26c2f95999ab732476d8", func := "frustum/frustumlaw09.TexelDecode", spec := "texelDecode", recurses := true, apart := false }
def TexelDecodeSaid : Prop := texelDecodeRow.holds Try.pinned (OpenSpec.ofChange texelDecodeSpec)

/-- ITS FALSE NEIGHBOUR: 'it returns false'. Refute it at one input. -/
def texelDecodeWrong : ChangeSpec := { name := "texelDecode", fn := fun _ => fun
  | [d1, d2, d3] => { results := [.lit (.bool false)], args := [d1, d2, d3] }
  | _ => none }
def TexelDecodeWrongFalsely : Prop := texelDecodeRow.holds Try.pinned (OpenSpec.ofChange texelDecodeWrong)

/-- 'frustumlaw09.TexelQuantize': WHATEVER THE INPUT: true; the input reads as it did. -/
def texelQuantizeSpec : ChangeSpec := { name := "texelQuantize", fn := fun _ => fun
  | [d1, d2] => { results := [.lit (.bool true)], args := [d1, d2] }
  | _ => none }
def texelQuantizeRow : OpenClaim := { program := "ytlfgpdohaomnlaa", sum := "0e47808cb4b9738a5c03dc4444cdca312b1a57d0b0fe26c2f95999ab732476d8", func := "frustum/frustumlaw09.TexelQuantize", spec := "texelQuantize", apart := false }
def TexelQuantizeSaid : Prop := texelQuantizeRow.holds Try.pinned (OpenSpec.ofChange texelQuantizeSpec)

/-- ITS FALSE NEIGHBOUR: 'it returns false'. Refute it at one input. -/
def texelQuantizeWrong : ChangeSpec := { name := "texelQuantize", fn := fun _ => fun
  | [d1, d2] => { results := [.lit (.bool false)], args := [d1, d2] }
  | _ => none }
def TexelQuantizeWrongFalsely : Prop := texelQuantizeRow.holds Try.pinned (OpenSpec.ofChange texelQuantizeWrong)

/-- 'frustumlaw09.TexelOrder': WHATEVER THE INPUT: true; the input reads as it did. -/
def texelOrderSpec : ChangeSpec := { name := "texelOrder", fn := fun _ => fun
  | [d1, d2, d3] => { results := [.lit (.bool true)], args := [d1, d2, d3] }
  | _ => none }
def texelOrderRow : OpenClaim := { program := "ytlfgpdohaomnlaa", sum := "0e47808cb4b9738a5c03dc4444cdca312b1a57d0b0fe26c2f95999ab732476d8", func := "frustum/frustumlaw09.TexelOrder", spec := "texelOrder", apart := false }
def TexelOrderSaid : Prop := texelOrderRow.holds Try.pinned (OpenSpec.ofChange texelOrderSpec)

/-- ITS FALSE NEIGHBOUR: 'it returns false'. Refute it at one input. -/
def texelOrderWrong : ChangeSpec := { name := "texelOrder", fn := fun _ => fun
  | [d1, d2, d3] => { results := [.lit (.bool false)], args := [d1, d2, d3] }
  | _ => none }
def TexelOrderWrongFalsely : Prop := texelOrderRow.holds Try.pinned (OpenSpec.ofChange texelOrderWrong)

/- THE SECOND FORM. 'bulk': how many values and letters a reading holds, each counted each time it is reached (what is shared counts as often as it is met; a slice's spare places count too). A statement '..UptoSaid' is the law's where the arguments, and the package variables that the reading takes, are together of bulk at most 1048576: NARROWER than '..Said'. Prove '..Said' where nothing that the law and all that it calls make is longer than what came in: it says more and counts as full. Else prove '..UptoSaid'. A law counts once. -/
mutual
def uptoBulk {H : Type} : DataW H → Nat
  | .lit (.string bytes) => bytes.length + 1
  | .lit _ => 1
  | .nil => 1
  | .ptr d => uptoBulk d + 1
  | .slice elems spare => uptoBulkAll elems + uptoBulkAll spare + 1
  | .agg parts => uptoBulkAll parts + 1
  | .iface _ d => uptoBulk d + 1
  | .map entries => uptoBulkEntries entries + 1
  | .held _ => 1
def uptoBulkAll {H : Type} : List (DataW H) → Nat
  | [] => 0
  | d :: r => uptoBulk d + uptoBulkAll r
def uptoBulkEntries {H : Type} : List (Lit × DataW H) → Nat
  | [] => 0
  | x :: r => uptoBulkEntry x + uptoBulkEntries r
def uptoBulkEntry {H : Type} : Lit × DataW H → Nat
  | (.string bytes, d) => bytes.length + uptoBulk d + 1
  | (_, d) => uptoBulk d + 1
 end
def uptoSmall : (H : Type) → List (DataW H) → Bool := fun _ ds => decide (uptoBulkAll ds ≤ 1048576)
def OpenSpec.upto (s : _root_.Go.ChangeSpec) : _root_.Go.OpenSpec := { _root_.Go.OpenSpec.ofChange s with cond := some uptoSmall }

/-- 'frustumlaw09.TexelRoundTrip', WHERE WHAT IT READS IS OF BULK AT MOST 1048576: true; the input reads as it did. -/
def texelRoundTripUptoRow : OpenClaim := { program := "ytlfgpdohaomnlaa", sum := "0e47808cb4b9738a5c03dc4444cdca312b1a57d0b0fe26c2f95999ab732476d8", func := "frustum/frustumlaw09.TexelRoundTrip", spec := "texelRoundTrip", apart := false, narrowed := true }
def TexelRoundTripUptoSaid : Prop := texelRoundTripUptoRow.holds Try.pinned (OpenSpec.upto texelRoundTripSpec)

/-- 'frustumlaw09.TexelUNorm', WHERE WHAT IT READS IS OF BULK AT MOST 1048576: true; the input reads as it did. -/
def texelUNormUptoRow : OpenClaim := { program := "ytlfgpdohaomnlaa", sum := "0e47808cb4b9738a5c03dc4444cdca312b1a57d0b0fe26c2f95999ab732476d8", func := "frustum/frustumlaw09.TexelUNorm", spec := "texelUNorm", recurses := true, apart := false, narrowed := true }
def TexelUNormUptoSaid : Prop := texelUNormUptoRow.holds Try.pinned (OpenSpec.upto texelUNormSpec)

/-- 'frustumlaw09.TexelEncode', WHERE WHAT IT READS IS OF BULK AT MOST 1048576: true; the input reads as it did. -/
def texelEncodeUptoRow : OpenClaim := { program := "ytlfgpdohaomnlaa", sum := "0e47808cb4b9738a5c03dc4444cdca312b1a57d0b0fe26c2f95999ab732476d8", func := "frustum/frustumlaw09.TexelEncode", spec := "texelEncode", recurses := true, apart := false, narrowed := true }
def TexelEncodeUptoSaid : Prop := texelEncodeUptoRow.holds Try.pinned (OpenSpec.upto texelEncodeSpec)

/-- 'frustumlaw09.TexelDecode', WHERE WHAT IT READS IS OF BULK AT MOST 1048576: true; the input reads as it did. -/
def texelDecodeUptoRow : OpenClaim := { program := "ytlfgpdohaomnlaa", sum := "0e47808cb4b9738a5c03dc4444cdca312b1a57d0b0fe26c2f95999ab732476d8", func := "frustum/frustumlaw09.TexelDecode", spec := "texelDecode", recurses := true, apart := false, narrowed := true }
def TexelDecodeUptoSaid : Prop := texelDecodeUptoRow.holds Try.pinned (OpenSpec.upto texelDecodeSpec)

/-- 'frustumlaw09.TexelQuantize', WHERE WHAT IT READS IS OF BULK AT MOST 1048576: true; the input reads as it did. -/
def texelQuantizeUptoRow : OpenClaim := { program := "ytlfgpdohaomnlaa", sum := "0e47808cb4b9738a5c03dc4444cdca312b1a57d0b0fe26c2f95999ab732476d8", func := "frustum/frustumlaw09.TexelQuantize", spec := "texelQuantize", apart := false, narrowed := true }
def TexelQuantizeUptoSaid : Prop := texelQuantizeUptoRow.holds Try.pinned (OpenSpec.upto texelQuantizeSpec)

/-- 'frustumlaw09.TexelOrder', WHERE WHAT IT READS IS OF BULK AT MOST 1048576: true; the input reads as it did. -/
def texelOrderUptoRow : OpenClaim := { program := "ytlfgpdohaomnlaa", sum := "0e47808cb4b9738a5c03dc4444cdca312b1a57d0b0fe26c2f95999ab732476d8", func := "frustum/frustumlaw09.TexelOrder", spec := "texelOrder", apart := false, narrowed := true }
def TexelOrderUptoSaid : Prop := texelOrderUptoRow.holds Try.pinned (OpenSpec.upto texelOrderSpec)

end Rows
end Go.Proofs.Ytlfgpdohaomnlaa
