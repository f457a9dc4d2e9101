/-
  No cell of these rows narrows 'for every input' (looked for: loops, veiled, ifaces, maps, wideKeys, modest, calm, conditions, laid).
  DERIVED. THE GIVEN ROWS OF THIS SEAT. 7 by the template 'for every input the law returns true; each argument reads behind the call as it read before'; 0 by the template 'total and deterministic' (their statements: YtlnbkahpklnfaaaTotals.lean).
  GIVEN WITH THE SEED: the statements are not yours to turn. If you find one false, say at which input.
  Laid BY PROGRAM, IN A SANDBOX (cutbox-rows.mjs): the forced cells as the released guide's own fill.sh prints them over the translation faf96cc1d8d3b823… (all of the seat's roots in one cut). By AI agents, Wed Nov 11 2026. No macro, syntax, notation, axiom, sorry.
-/
import Derived.Test.YtlnbkahpklnfaaaChecked
import GoSem.Claim
import GoSem.ClaimJoined
import GoSem.ClaimMapViews
import Derived.JoinedTies
import Derived.KernelRfl
namespace Go.Proofs.Ytlnbkahpklnfaaa
/- THE CELL 'sum', in the pinned program and in every row, IS THE sha256 OF THE DUMP (.gsa) THAT YtlnbkahpklnfaaaProg.lean LOADS. Nothing in Lean hashes anything: it is a label: what it is worth is what the hold of that sum in a sandbox is worth. -/
noncomputable def Try.pinned : Pinned := { name := "ytlnbkahpklnfaaa", sum := "faf96cc1d8d3b823a73c0fcba1db23b604e324a91717567ba46c382c130502e9", checked := Try.checked }
namespace Rows
def none {H : Type} : Left H := { results := [], args := [] }

/-- 'frustumlaw10.ImageRobust': WHATEVER THE INPUT: true; the input reads as it did. -/
def imageRobustSpec : ChangeSpec := { name := "imageRobust", fn := fun _ => fun
  | [d1, d2, d3] => { results := [.lit (.bool true)], args := [d1, d2, d3] }
  | _ => none }
def imageRobustRow : OpenClaim := { program := "ytlnbkahpklnfaaa", sum := "faf96cc1d8d3b823a73c0fcba1db23b604e324a91717567ba46c382c130502e9", func := "frustum/frustumlaw10.ImageRobust", spec := "imageRobust", recurses := true, apart := false }
def ImageRobustSaid : Prop := imageRobustRow.holds Try.pinned (OpenSpec.ofChange imageRobustSpec)

/-- ITS FALSE NEIGHBOUR: 'it returns false'. Refute it at one input. -/
def imageRobustWrong : ChangeSpec := { name := "imageRobust", fn := fun _ => fun
  | [d1, d2, d3] => { results := [.lit (.bool false)], args := [d1, d2, d3] }
  | _ => none }
def ImageRobustWrongFalsely : Prop := imageRobustRow.holds Try.pinned (OpenSpec.ofChange imageRobustWrong)

/-- 'frustumlaw10.ImageCopies': WHATEVER THE INPUT: true; the input reads as it did. -/
def imageCopiesSpec : ChangeSpec := { name := "imageCopies", fn := fun _ => fun
  | [d1, d2, d3] => { results := [.lit (.bool true)], args := [d1, d2, d3] }
  | _ => none }
def imageCopiesRow : OpenClaim := { program := "ytlnbkahpklnfaaa", sum := "faf96cc1d8d3b823a73c0fcba1db23b604e324a91717567ba46c382c130502e9", func := "frustum/frustumlaw10.ImageCopies", spec := "imageCopies", apart := false }
def ImageCopiesSaid : Prop := imageCopiesRow.holds Try.pinned (OpenSpec.ofChange imageCopiesSpec)

/-- ITS FALSE NEIGHBOUR: 'it returns false'. Refute it at one input. -/
def imageCopiesWrong : ChangeSpec := { name := "imageCopies", fn := fun _ => fun
  | [d1, d2, d3] => { results := [.lit (.bool false)], args := [d1, d2, d3] }
  | _ => none }
def ImageCopiesWrongFalsely : Prop := imageCopiesRow.holds Try.pinned (OpenSpec.ofChange imageCopiesWrong)

/-- 'frustumlaw10.ImageNew': WHATEVER THE INPUT: true; the input reads as it did. -/
def imageNewSpec : ChangeSpec := { name := "imageNew", fn := fun _ => fun
  | [d1, d2, d3] => { results := [.lit (.bool true)], args := [d1, d2, d3] }
  | _ => none }
def imageNewRow : OpenClaim := { program := "ytlnbkahpklnfaaa", sum := "faf96cc1d8d3b823a73c0fcba1db23b604e324a91717567ba46c382c130502e9", func := "frustum/frustumlaw10.ImageNew", spec := "imageNew", inPlace := ["internal/bytealg.MakeNoZero"], recurses := true, apart := false }
def ImageNewSaid : Prop := imageNewRow.holds Try.pinned (OpenSpec.ofChange imageNewSpec)

/-- ITS FALSE NEIGHBOUR: 'it returns false'. Refute it at one input. -/
def imageNewWrong : ChangeSpec := { name := "imageNew", fn := fun _ => fun
  | [d1, d2, d3] => { results := [.lit (.bool false)], args := [d1, d2, d3] }
  | _ => none }
def ImageNewWrongFalsely : Prop := imageNewRow.holds Try.pinned (OpenSpec.ofChange imageNewWrong)

/-- 'frustumlaw10.ImageGetOfSet': WHATEVER THE INPUT: true; the input reads as it did. -/
def imageGetOfSetSpec : ChangeSpec := { name := "imageGetOfSet", fn := fun _ => fun
  | [d1, d2, d3] => { results := [.lit (.bool true)], args := [d1, d2, d3] }
  | _ => none }
def imageGetOfSetRow : OpenClaim := { program := "ytlnbkahpklnfaaa", sum := "faf96cc1d8d3b823a73c0fcba1db23b604e324a91717567ba46c382c130502e9", func := "frustum/frustumlaw10.ImageGetOfSet", spec := "imageGetOfSet", apart := false }
def ImageGetOfSetSaid : Prop := imageGetOfSetRow.holds Try.pinned (OpenSpec.ofChange imageGetOfSetSpec)

/-- ITS FALSE NEIGHBOUR: 'it returns false'. Refute it at one input. -/
def imageGetOfSetWrong : ChangeSpec := { name := "imageGetOfSet", fn := fun _ => fun
  | [d1, d2, d3] => { results := [.lit (.bool false)], args := [d1, d2, d3] }
  | _ => none }
def ImageGetOfSetWrongFalsely : Prop := imageGetOfSetRow.holds Try.pinned (OpenSpec.ofChange imageGetOfSetWrong)

/-- 'frustumlaw10.ImageCopyRectangle': WHATEVER THE INPUT: true; the input reads as it did. -/
def imageCopyRectangleSpec : ChangeSpec := { name := "imageCopyRectangle", fn := fun _ => fun
  | [d1, d2, d3] => { results := [.lit (.bool true)], args := [d1, d2, d3] }
  | _ => none }
def imageCopyRectangleRow : OpenClaim := { program := "ytlnbkahpklnfaaa", sum := "faf96cc1d8d3b823a73c0fcba1db23b604e324a91717567ba46c382c130502e9", func := "frustum/frustumlaw10.ImageCopyRectangle", spec := "imageCopyRectangle", apart := false }
def ImageCopyRectangleSaid : Prop := imageCopyRectangleRow.holds Try.pinned (OpenSpec.ofChange imageCopyRectangleSpec)

/-- ITS FALSE NEIGHBOUR: 'it returns false'. Refute it at one input. -/
def imageCopyRectangleWrong : ChangeSpec := { name := "imageCopyRectangle", fn := fun _ => fun
  | [d1, d2, d3] => { results := [.lit (.bool false)], args := [d1, d2, d3] }
  | _ => none }
def ImageCopyRectangleWrongFalsely : Prop := imageCopyRectangleRow.holds Try.pinned (OpenSpec.ofChange imageCopyRectangleWrong)

/-- 'frustumlaw10.ImageFillUniform': WHATEVER THE INPUT: true; the input reads as it did. -/
def imageFillUniformSpec : ChangeSpec := { name := "imageFillUniform", fn := fun _ => fun
  | [d1, d2] => { results := [.lit (.bool true)], args := [d1, d2] }
  | _ => none }
def imageFillUniformRow : OpenClaim := { program := "ytlnbkahpklnfaaa", sum := "faf96cc1d8d3b823a73c0fcba1db23b604e324a91717567ba46c382c130502e9", func := "frustum/frustumlaw10.ImageFillUniform", spec := "imageFillUniform", inPlace := ["internal/bytealg.MakeNoZero"], apart := false }
def ImageFillUniformSaid : Prop := imageFillUniformRow.holds Try.pinned (OpenSpec.ofChange imageFillUniformSpec)

/-- ITS FALSE NEIGHBOUR: 'it returns false'. Refute it at one input. -/
def imageFillUniformWrong : ChangeSpec := { name := "imageFillUniform", fn := fun _ => fun
  | [d1, d2] => { results := [.lit (.bool false)], args := [d1, d2] }
  | _ => none }
def ImageFillUniformWrongFalsely : Prop := imageFillUniformRow.holds Try.pinned (OpenSpec.ofChange imageFillUniformWrong)

/-- 'frustumlaw10.ImageEqual': WHATEVER THE INPUT: true; the input reads as it did. -/
def imageEqualSpec : ChangeSpec := { name := "imageEqual", fn := fun _ => fun
  | [d1, d2] => { results := [.lit (.bool true)], args := [d1, d2] }
  | _ => none }
def imageEqualRow : OpenClaim := { program := "ytlnbkahpklnfaaa", sum := "faf96cc1d8d3b823a73c0fcba1db23b604e324a91717567ba46c382c130502e9", func := "frustum/frustumlaw10.ImageEqual", spec := "imageEqual", apart := false }
def ImageEqualSaid : Prop := imageEqualRow.holds Try.pinned (OpenSpec.ofChange imageEqualSpec)

/-- ITS FALSE NEIGHBOUR: 'it returns false'. Refute it at one input. -/
def imageEqualWrong : ChangeSpec := { name := "imageEqual", fn := fun _ => fun
  | [d1, d2] => { results := [.lit (.bool false)], args := [d1, d2] }
  | _ => none }
def ImageEqualWrongFalsely : Prop := imageEqualRow.holds Try.pinned (OpenSpec.ofChange imageEqualWrong)

/- THE SECOND FORM. 'bulk': how many values and letters a reading holds, each counted each time it is reached (what is shared counts as often as it is met; a slice's spare places count too). A statement '..UptoSaid' is the law's where the arguments, and the package variables that the reading takes, are together of bulk at most 1048576: NARROWER than '..Said'. Prove '..Said' where nothing that the law and all that it calls make is longer than what came in: it says more and counts as full. Else prove '..UptoSaid'. A law counts once. -/
mutual
def uptoBulk {H : Type} : DataW H → Nat
  | .lit (.string bytes) => bytes.length + 1
  | .lit _ => 1
  | .nil => 1
  | .ptr d => uptoBulk d + 1
  | .slice elems spare => uptoBulkAll elems + uptoBulkAll spare + 1
  | .agg parts => uptoBulkAll parts + 1
  | .iface _ d => uptoBulk d + 1
  | .map entries => uptoBulkEntries entries + 1
  | .held _ => 1
def uptoBulkAll {H : Type} : List (DataW H) → Nat
  | [] => 0
  | d :: r => uptoBulk d + uptoBulkAll r
def uptoBulkEntries {H : Type} : List (Lit × DataW H) → Nat
  | [] => 0
  | x :: r => uptoBulkEntry x + uptoBulkEntries r
def uptoBulkEntry {H : Type} : Lit × DataW H → Nat
  | (.string bytes, d) => bytes.length + uptoBulk d + 1
  | (_, d) => uptoBulk d + 1
 end
def uptoSmall : (H : Type) → List (DataW H) → Bool := fun _ ds => decide (uptoBulkAll ds ≤ 1048576)
def OpenSpec.upto (s : _root_.Go.ChangeSpec) : _root_.Go.OpenSpec := { _root_.Go.OpenSpec.ofChange s with cond := some uptoSmall }

/-- 'frustumlaw10.ImageRobust', WHERE WHAT IT READS IS OF BULK AT MOST 1048576: true; the input reads as it did. -/
def imageRobustUptoRow : OpenClaim := { program := "ytlnbkahpklnfaaa", sum := "faf96cc1d8d3b823a73c0fcba1db23b604e324a91717567ba46c382c130502e9", func := "frustum/frustumlaw10.ImageRobust", spec := "imageRobust", recurses := true, apart := false, narrowed := true }
def ImageRobustUptoSaid : Prop := imageRobustUptoRow.holds Try.pinned (OpenSpec.upto imageRobustSpec)

/-- 'frustumlaw10.ImageCopies', WHERE WHAT IT READS IS OF BULK AT MOST 1048576: true; the input reads as it did. -/
def imageCopiesUptoRow : OpenClaim := { program := "ytlnbkahpklnfaaa", sum := "faf96cc1d8d3b823a73c0fcba1db23b604e324a91717567ba46c382c130502e9", func := "frustum/frustumlaw10.ImageCopies", spec := "imageCopies", apart := false, narrowed := true }
def ImageCopiesUptoSaid : Prop := imageCopiesUptoRow.holds Try.pinned (OpenSpec.upto imageCopiesSpec)

/-- 'frustumlaw10.ImageNew', WHERE WHAT IT READS IS OF BULK AT MOST 1048576: true; the input reads as it did. -/
def imageNewUptoRow : OpenClaim := { program := "ytlnbkahpklnfaaa", sum := "faf96cc1d8d3b823a73c0fcba1db23b604e324a91717567ba46c382c130502e9", func := "frustum/frustumlaw10.ImageNew", spec := "imageNew", inPlace := ["internal/bytealg.MakeNoZero"], recurses := true, apart := false, narrowed := true }
def ImageNewUptoSaid : Prop := imageNewUptoRow.holds Try.pinned (OpenSpec.upto imageNewSpec)

/-- 'frustumlaw10.ImageGetOfSet', WHERE WHAT IT READS IS OF BULK AT MOST 1048576: true; the input reads as it did. -/
def imageGetOfSetUptoRow : OpenClaim := { program := "ytlnbkahpklnfaaa", sum := "faf96cc1d8d3b823a73c0fcba1db23b604e324a91717567ba46c382c130502e9", func := "frustum/frustumlaw10.ImageGetOfSet", spec := "imageGetOfSet", apart := false, narrowed := true }
def ImageGetOfSetUptoSaid : Prop := imageGetOfSetUptoRow.holds Try.pinned (OpenSpec.upto imageGetOfSetSpec)

/-- 'frustumlaw10.ImageCopyRectangle', WHERE WHAT IT READS IS OF BULK AT MOST 1048576: true; the input reads as it did. -/
def imageCopyRectangleUptoRow : OpenClaim := { program := "ytlnbkahpklnfaaa", sum := "faf96cc1d8d3b823a73c0fcba1db23b604e324a91717567ba46c382c130502e9", func := "frustum/frustumlaw10.ImageCopyRectangle", spec := "imageCopyRectangle", apart := false, narrowed := true }
def ImageCopyRectangleUptoSaid : Prop := imageCopyRectangleUptoRow.holds Try.pinned (OpenSpec.upto imageCopyRectangleSpec)

/-- 'frustumlaw10.ImageFillUniform', WHERE WHAT IT READS IS OF BULK AT MOST 1048576: true; the input reads as it did. -/
def imageFillUniformUptoRow : OpenClaim := { program := "ytlnbkahpklnfaaa", sum := "faf96cc1d8d3b823a73c0fcba1db23b604e324a91717567ba46c382c130502e9", func := "frustum/frustumlaw10.ImageFillUniform", spec := "imageFillUniform", inPlace := ["internal/bytealg.MakeNoZero"], apart := false, narrowed := true }
def ImageFillUniformUptoSaid : Prop := imageFillUniformUptoRow.holds Try.pinned (OpenSpec.upto imageFillUniformSpec)

/-- 'frustumlaw10.ImageEqual', WHERE WHAT IT READS IS OF BULK AT MOST 1048576: true; the input reads as it did. -/
def imageEqualUptoRow : OpenClaim := { program := "ytlnbkahpklnfaaa", sum := "faf96cc1d8d3b823a73c0fcba1db23b604e324a91717567ba46c382c130502e9", func := "frustum/frustumlaw10.ImageEqual", spec := "imageEqual", apart := false, narrowed := true }
def ImageEqualUptoSaid : Prop := imageEqualUptoRow.holds Try.pinned (OpenSpec.upto imageEqualSpec)

end Rows
end Go.Proofs.Ytlnbkahpklnfaaa
