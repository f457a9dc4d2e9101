/-
  No cell of these rows narrows 'for every input' (looked for: loops, veiled, ifaces, maps, wideKeys, modest, calm, conditions, laid).
  DERIVED. THE GIVEN ROWS OF THIS SEAT. 6 by the template 'for every input the law returns true; each argument reads behind the call as it read before'; 0 by the template 'total and deterministic' (their statements: YtadndipdkdgkbaaTotals.lean).
  GIVEN WITH THE SEED: the statements are not yours to turn. If you find one false, say at which input.
  Laid BY PROGRAM, IN A SANDBOX (cutbox-rows.mjs): the forced cells as the released guide's own fill.sh prints them over the translation 8ea813215f4d9bec… (all of the seat's roots in one cut). By AI agents, Wed Nov 11 2026. No macro, syntax, notation, axiom, sorry.
-/
import Derived.Test.YtadndipdkdgkbaaChecked
import GoSem.Claim
import GoSem.ClaimJoined
import GoSem.ClaimMapViews
import Derived.JoinedTies
import Derived.KernelRfl
namespace Go.Proofs.Ytadndipdkdgkbaa
/- THE CELL 'sum', in the pinned program and in every row, IS THE sha256 OF THE DUMP (.gsa) THAT YtadndipdkdgkbaaProg.lean LOADS. Nothing in Lean hashes anything: it is a label: what it is worth is what the hold of that sum in a sandbox is worth. -/
noncomputable def Try.pinned : Pinned := { name := "ytadndipdkdgkbaa", sum := "8ea813215f4d9becd9bdf581ef49b54260182bfec8c1c93bf15448702c154faf", checked := Try.checked }
namespace Rows
def none {H : Type} : Left H := { results := [], args := [] }

/-- 'frustumlaw41.ResolveAverages': WHATEVER THE INPUT: true; the input reads as it did. -/
def resolveAveragesSpec : ChangeSpec := { name := "resolveAverages", fn := fun _ => fun
  | [d] => { results := [.lit (.bool true)], args := [d] }
  | _ => none }
def resolveAveragesRow : OpenClaim := { program := "ytadndipdkdgkbaa", sum := "8ea813215f4d9becd9bdf581ef49b54260182bfec8c1c93bf15448702c154faf", func := "frustum/frustumlaw41.ResolveAverages", spec := "resolveAverages", recurses := true, apart := false }
def ResolveAveragesSaid : Prop := resolveAveragesRow.holds Try.pinned (OpenSpec.ofChange resolveAveragesSpec)

/-- ITS FALSE NEIGHBOUR: 'it returns false'. Refute it at one input. -/
def resolveAveragesWrong : ChangeSpec := { name := "resolveAverages", fn := fun _ => fun
  | [d] => { results := [.lit (.bool false)], args := [d] }
  | _ => none }
def ResolveAveragesWrongFalsely : Prop := resolveAveragesRow.holds Try.pinned (OpenSpec.ofChange resolveAveragesWrong)

/-- 'frustumlaw41.ResolveImages': WHATEVER THE INPUT: true; the input reads as it did. -/
def resolveImagesSpec : ChangeSpec := { name := "resolveImages", fn := fun _ => fun
  | [d] => { results := [.lit (.bool true)], args := [d] }
  | _ => none }
def resolveImagesRow : OpenClaim := { program := "ytadndipdkdgkbaa", sum := "8ea813215f4d9becd9bdf581ef49b54260182bfec8c1c93bf15448702c154faf", func := "frustum/frustumlaw41.ResolveImages", spec := "resolveImages", recurses := true, apart := false }
def ResolveImagesSaid : Prop := resolveImagesRow.holds Try.pinned (OpenSpec.ofChange resolveImagesSpec)

/-- ITS FALSE NEIGHBOUR: 'it returns false'. Refute it at one input. -/
def resolveImagesWrong : ChangeSpec := { name := "resolveImages", fn := fun _ => fun
  | [d] => { results := [.lit (.bool false)], args := [d] }
  | _ => none }
def ResolveImagesWrongFalsely : Prop := resolveImagesRow.holds Try.pinned (OpenSpec.ofChange resolveImagesWrong)

/-- 'frustumlaw41.ResolveUniform': WHATEVER THE INPUT: true; the input reads as it did. -/
def resolveUniformSpec : ChangeSpec := { name := "resolveUniform", fn := fun _ => fun
  | [d1, d2, d3] => { results := [.lit (.bool true)], args := [d1, d2, d3] }
  | _ => none }
def resolveUniformRow : OpenClaim := { program := "ytadndipdkdgkbaa", sum := "8ea813215f4d9becd9bdf581ef49b54260182bfec8c1c93bf15448702c154faf", func := "frustum/frustumlaw41.ResolveUniform", spec := "resolveUniform", recurses := true, apart := false }
def ResolveUniformSaid : Prop := resolveUniformRow.holds Try.pinned (OpenSpec.ofChange resolveUniformSpec)

/-- ITS FALSE NEIGHBOUR: 'it returns false'. Refute it at one input. -/
def resolveUniformWrong : ChangeSpec := { name := "resolveUniform", fn := fun _ => fun
  | [d1, d2, d3] => { results := [.lit (.bool false)], args := [d1, d2, d3] }
  | _ => none }
def ResolveUniformWrongFalsely : Prop := resolveUniformRow.holds Try.pinned (OpenSpec.ofChange resolveUniformWrong)

/-- 'frustumlaw41.ResolveAverage': WHATEVER THE INPUT: true; the input reads as it did. -/
def resolveAverageSpec : ChangeSpec := { name := "resolveAverage", fn := fun _ => fun
  | [d1, d2, d3] => { results := [.lit (.bool true)], args := [d1, d2, d3] }
  | _ => none }
def resolveAverageRow : OpenClaim := { program := "ytadndipdkdgkbaa", sum := "8ea813215f4d9becd9bdf581ef49b54260182bfec8c1c93bf15448702c154faf", func := "frustum/frustumlaw41.ResolveAverage", spec := "resolveAverage", apart := false }
def ResolveAverageSaid : Prop := resolveAverageRow.holds Try.pinned (OpenSpec.ofChange resolveAverageSpec)

/-- ITS FALSE NEIGHBOUR: 'it returns false'. Refute it at one input. -/
def resolveAverageWrong : ChangeSpec := { name := "resolveAverage", fn := fun _ => fun
  | [d1, d2, d3] => { results := [.lit (.bool false)], args := [d1, d2, d3] }
  | _ => none }
def ResolveAverageWrongFalsely : Prop := resolveAverageRow.holds Try.pinned (OpenSpec.ofChange resolveAverageWrong)

/-- 'frustumlaw41.ResolveKeeps': WHATEVER THE INPUT: true; the input reads as it did. -/
def resolveKeepsSpec : ChangeSpec := { name := "resolveKeeps", fn := fun _ => fun
  | [d1, d2, d3] => { results := [.lit (.bool true)], args := [d1, d2, d3] }
  | _ => none }
def resolveKeepsRow : OpenClaim := { program := "ytadndipdkdgkbaa", sum := "8ea813215f4d9becd9bdf581ef49b54260182bfec8c1c93bf15448702c154faf", func := "frustum/frustumlaw41.ResolveKeeps", spec := "resolveKeeps", apart := false }
def ResolveKeepsSaid : Prop := resolveKeepsRow.holds Try.pinned (OpenSpec.ofChange resolveKeepsSpec)

/-- ITS FALSE NEIGHBOUR: 'it returns false'. Refute it at one input. -/
def resolveKeepsWrong : ChangeSpec := { name := "resolveKeeps", fn := fun _ => fun
  | [d1, d2, d3] => { results := [.lit (.bool false)], args := [d1, d2, d3] }
  | _ => none }
def ResolveKeepsWrongFalsely : Prop := resolveKeepsRow.holds Try.pinned (OpenSpec.ofChange resolveKeepsWrong)

/-- 'frustumlaw41.ResolveSame': WHATEVER THE INPUT: true; the input reads as it did. -/
def resolveSameSpec : ChangeSpec := { name := "resolveSame", fn := fun _ => fun
  | [d1, d2] => { results := [.lit (.bool true)], args := [d1, d2] }
  | _ => none }
def resolveSameRow : OpenClaim := { program := "ytadndipdkdgkbaa", sum := "8ea813215f4d9becd9bdf581ef49b54260182bfec8c1c93bf15448702c154faf", func := "frustum/frustumlaw41.ResolveSame", spec := "resolveSame", apart := false }
def ResolveSameSaid : Prop := resolveSameRow.holds Try.pinned (OpenSpec.ofChange resolveSameSpec)

/-- ITS FALSE NEIGHBOUR: 'it returns false'. Refute it at one input. -/
def resolveSameWrong : ChangeSpec := { name := "resolveSame", fn := fun _ => fun
  | [d1, d2] => { results := [.lit (.bool false)], args := [d1, d2] }
  | _ => none }
def ResolveSameWrongFalsely : Prop := resolveSameRow.holds Try.pinned (OpenSpec.ofChange resolveSameWrong)

/- THE SECOND FORM. 'bulk': how many values and letters a reading holds, each counted each time it is reached (what is shared counts as often as it is met; a slice's spare places count too). A statement '..UptoSaid' is the law's where the arguments, and the package variables that the reading takes, are together of bulk at most 1048576: NARROWER than '..Said'. Prove '..Said' where nothing that the law and all that it calls make is longer than what came in: it says more and counts as full. Else prove '..UptoSaid'. A law counts once. -/
mutual
def uptoBulk {H : Type} : DataW H → Nat
  | .lit (.string bytes) => bytes.length + 1
  | .lit _ => 1
  | .nil => 1
  | .ptr d => uptoBulk d + 1
  | .slice elems spare => uptoBulkAll elems + uptoBulkAll spare + 1
  | .agg parts => uptoBulkAll parts + 1
  | .iface _ d => uptoBulk d + 1
  | .map entries => uptoBulkEntries entries + 1
  | .held _ => 1
def uptoBulkAll {H : Type} : List (DataW H) → Nat
  | [] => 0
  | d :: r => uptoBulk d + uptoBulkAll r
def uptoBulkEntries {H : Type} : List (Lit × DataW H) → Nat
  | [] => 0
  | x :: r => uptoBulkEntry x + uptoBulkEntries r
def uptoBulkEntry {H : Type} : Lit × DataW H → Nat
  | (.string bytes, d) => bytes.length + uptoBulk d + 1
  | (_, d) => uptoBulk d + 1
 end
def uptoSmall : (H : Type) → List (DataW H) → Bool := fun _ ds => decide (uptoBulkAll ds ≤ 1048576)
def OpenSpec.upto (s : _root_.Go.ChangeSpec) : _root_.Go.OpenSpec := { _root_.Go.OpenSpec.ofChange s with cond := some uptoSmall }

/-- 'frustumlaw41.ResolveAverages', WHERE WHAT IT READS IS OF BULK AT MOST 1048576: true; the input reads as it did. -/
def resolveAveragesUptoRow : OpenClaim := { program := "ytadndipdkdgkbaa", sum := "8ea813215f4d9becd9bdf581ef49b54260182bfec8c1c93bf15448702c154faf", func := "frustum/frustumlaw41.ResolveAverages", spec := "resolveAverages", recurses := true, apart := false, narrowed := true }
def ResolveAveragesUptoSaid : Prop := resolveAveragesUptoRow.holds Try.pinned (OpenSpec.upto resolveAveragesSpec)

/-- 'frustumlaw41.ResolveImages', WHERE WHAT IT READS IS OF BULK AT MOST 1048576: true; the input reads as it did. -/
def resolveImagesUptoRow : OpenClaim := { program := "ytadndipdkdgkbaa", sum := "8ea813215f4d9becd9bdf581ef49b54260182bfec8c1c93bf15448702c154faf", func := "frustum/frustumlaw41.ResolveImages", spec := "resolveImages", recurses := true, apart := false, narrowed := true }
def ResolveImagesUptoSaid : Prop := resolveImagesUptoRow.holds Try.pinned (OpenSpec.upto resolveImagesSpec)

/-- 'frustumlaw41.ResolveUniform', WHERE WHAT IT READS IS OF BULK AT MOST 1048576: true; the input reads as it did. -/
def resolveUniformUptoRow : OpenClaim := { program := "ytadndipdkdgkbaa", sum := "8ea813215f4d9becd9bdf581ef49b54260182bfec8c1c93bf15448702c154faf", func := "frustum/frustumlaw41.ResolveUniform", spec := "resolveUniform", recurses := true, apart := false, narrowed := true }
def ResolveUniformUptoSaid : Prop := resolveUniformUptoRow.holds Try.pinned (OpenSpec.upto resolveUniformSpec)

/-- 'frustumlaw41.ResolveAverage', WHERE WHAT IT READS IS OF BULK AT MOST 1048576: true; the input reads as it did. -/
def resolveAverageUptoRow : OpenClaim := { program := "ytadndipdkdgkbaa", sum := "8ea813215f4d9becd9bdf581ef49b54260182bfec8c1c93bf15448702c154faf", func := "frustum/frustumlaw41.ResolveAverage", spec := "resolveAverage", apart := false, narrowed := true }
def ResolveAverageUptoSaid : Prop := resolveAverageUptoRow.holds Try.pinned (OpenSpec.upto resolveAverageSpec)

/-- 'frustumlaw41.ResolveKeeps', WHERE WHAT IT READS IS OF BULK AT MOST 1048576: true; the input reads as it did. -/
def resolveKeepsUptoRow : OpenClaim := { program := "ytadndipdkdgkbaa", sum := "8ea813215f4d9becd9bdf581ef49b54260182bfec8c1c93bf15448702c154faf", func := "frustum/frustumlaw41.ResolveKeeps", spec := "resolveKeeps", apart := false, narrowed := true }
def ResolveKeepsUptoSaid : Prop := resolveKeepsUptoRow.holds Try.pinned (OpenSpec.upto resolveKeepsSpec)

/-- 'frustumlaw41.ResolveSame', WHERE WHAT IT READS IS OF BULK AT MOST 1048576: true; the input reads as it did. -/
def resolveSameUptoRow : OpenClaim := { program := "ytadndipdkdgkbaa", sum := "8ea813215f4d9becd9bdf581ef49b54260182bfec8c1c93bf15448702c154faf", func := "frustum/frustumlaw41.ResolveSame", spec := "resolveSame", apart := false, narrowed := true }
def ResolveSameUptoSaid : Prop := resolveSameUptoRow.holds Try.pinned (OpenSpec.upto resolveSameSpec)

end Rows
end Go.Proofs.Ytadndipdkdgkbaa
