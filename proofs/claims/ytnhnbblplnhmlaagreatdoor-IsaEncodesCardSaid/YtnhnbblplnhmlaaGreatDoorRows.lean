/-
  NARROWER THAN 'FOR EVERY INPUT', by the rows' own cells (each row's printed sentence says how): IsaComputes: laid · IsaEncodes: laid · IsaDecodes: laid · IsaRoundTrip: laid.
  DERIVED. THE GIVEN ROWS OF THIS SEAT. 4 by the template 'for every input the law returns true; each argument reads behind the call as it read before'; 0 by the template 'total and deterministic' (their statements: YtnhnbblplnhmlaaGreatDoorTotals.lean).
  GIVEN WITH THE SEED: the statements are not yours to turn. If you find one false, say at which input.
  Laid BY PROGRAM, IN A SANDBOX (cutbox-rows.mjs): the forced cells as the released guide's own fill.sh prints them over the translation 621866447b9150f2… (all of the seat's roots in one cut). By AI agents, Wed Nov 11 2026. No macro, syntax, notation, axiom, sorry.
-/
import Derived.Test.YtnhnbblplnhmlaaGreatDoorChecked
import GoSem.Claim
import GoSem.ClaimJoined
import GoSem.ClaimMapViews
import Derived.JoinedTies
import Derived.KernelRfl
namespace Go.Proofs.YtnhnbblplnhmlaaGreatDoor
/- THE CELL 'sum', in the pinned program and in every row, IS THE sha256 OF THE DUMP (.gsa) THAT YtnhnbblplnhmlaaGreatDoorProg.lean LOADS. Nothing in Lean hashes anything: it is a label: what it is worth is what the hold of that sum in a sandbox is worth. -/
noncomputable def Tryz.pinned : Pinned := { name := "ytnhnbblplnhmlaagreatdoor", sum := "621866447b9150f28749d6b31f55296b8db9ebfd96cac6795e19a81cd42cba65", checked := Tryz.checked }
namespace Rows
def none {H : Type} : Left H := { results := [], args := [] }

/- WHAT THE LISTED PACKAGE-LEVEL VARIABLES READ AS WHEN THE CALL BEGINS. Each datum BY PROGRAM (the guide's laid-datum.mjs) off the statement by which the dump's own 'gosem.cut.vars' lays the variable. In a bare row this is a premise. The card (YtnhnbblplnhmlaaGreatDoorCards.lean) ties it to the program's text. -/
def laid_math_bits_deBruijn32tab {H : Type} : DataW H := .agg [.lit (.int .u8 0), .lit (.int .u8 1), .lit (.int .u8 28), .lit (.int .u8 2), .lit (.int .u8 29), .lit (.int .u8 14), .lit (.int .u8 24), .lit (.int .u8 3), .lit (.int .u8 30), .lit (.int .u8 22), .lit (.int .u8 20), .lit (.int .u8 15), .lit (.int .u8 25), .lit (.int .u8 17), .lit (.int .u8 4), .lit (.int .u8 8), .lit (.int .u8 31), .lit (.int .u8 27), .lit (.int .u8 13), .lit (.int .u8 23), .lit (.int .u8 21), .lit (.int .u8 19), .lit (.int .u8 16), .lit (.int .u8 7), .lit (.int .u8 26), .lit (.int .u8 12), .lit (.int .u8 18), .lit (.int .u8 6), .lit (.int .u8 11), .lit (.int .u8 5), .lit (.int .u8 10), .lit (.int .u8 9)]
def laid_math_bits_deBruijn64tab {H : Type} : DataW H := .agg [.lit (.int .u8 0), .lit (.int .u8 1), .lit (.int .u8 56), .lit (.int .u8 2), .lit (.int .u8 57), .lit (.int .u8 49), .lit (.int .u8 28), .lit (.int .u8 3), .lit (.int .u8 61), .lit (.int .u8 58), .lit (.int .u8 42), .lit (.int .u8 50), .lit (.int .u8 38), .lit (.int .u8 29), .lit (.int .u8 17), .lit (.int .u8 4), .lit (.int .u8 62), .lit (.int .u8 47), .lit (.int .u8 59), .lit (.int .u8 36), .lit (.int .u8 45), .lit (.int .u8 43), .lit (.int .u8 51), .lit (.int .u8 22), .lit (.int .u8 53), .lit (.int .u8 39), .lit (.int .u8 33), .lit (.int .u8 30), .lit (.int .u8 24), .lit (.int .u8 18), .lit (.int .u8 12), .lit (.int .u8 5), .lit (.int .u8 63), .lit (.int .u8 55), .lit (.int .u8 48), .lit (.int .u8 27), .lit (.int .u8 60), .lit (.int .u8 41), .lit (.int .u8 37), .lit (.int .u8 16), .lit (.int .u8 46), .lit (.int .u8 35), .lit (.int .u8 44), .lit (.int .u8 21), .lit (.int .u8 52), .lit (.int .u8 32), .lit (.int .u8 23), .lit (.int .u8 11), .lit (.int .u8 54), .lit (.int .u8 26), .lit (.int .u8 40), .lit (.int .u8 15), .lit (.int .u8 34), .lit (.int .u8 20), .lit (.int .u8 31), .lit (.int .u8 10), .lit (.int .u8 25), .lit (.int .u8 14), .lit (.int .u8 19), .lit (.int .u8 9), .lit (.int .u8 13), .lit (.int .u8 8), .lit (.int .u8 7), .lit (.int .u8 6)]
def laid_internal_strconv_uint64pow10 {H : Type} : DataW H := .agg [.lit (.int .u64 1), .lit (.int .u64 10), .lit (.int .u64 100), .lit (.int .u64 1000), .lit (.int .u64 10000), .lit (.int .u64 100000), .lit (.int .u64 1000000), .lit (.int .u64 10000000), .lit (.int .u64 100000000), .lit (.int .u64 1000000000), .lit (.int .u64 10000000000), .lit (.int .u64 100000000000), .lit (.int .u64 1000000000000), .lit (.int .u64 10000000000000), .lit (.int .u64 100000000000000), .lit (.int .u64 1000000000000000), .lit (.int .u64 10000000000000000), .lit (.int .u64 100000000000000000), .lit (.int .u64 1000000000000000000), .lit (.int .u64 10000000000000000000)]
def laid_frustum_isa_names {H : Type} : DataW H := .agg [.lit (.string []), .lit (.string [99, 111, 110, 115, 116]), .lit (.string [109, 111, 118, 101]), .lit (.string [97, 100, 100]), .lit (.string [115, 117, 98]), .lit (.string [109, 117, 108]), .lit (.string [100, 105, 118]), .lit (.string [97, 100, 100, 45, 105, 110, 116]), .lit (.string [115, 117, 98, 45, 105, 110, 116]), .lit (.string [109, 117, 108, 45, 105, 110, 116]), .lit (.string [100, 105, 118, 45, 105, 110, 116]), .lit (.string [109, 111, 100, 45, 105, 110, 116]), .lit (.string [97, 110, 100]), .lit (.string [111, 114]), .lit (.string [120, 111, 114]), .lit (.string [115, 104, 105, 102, 116, 45, 108, 101, 102, 116]), .lit (.string [115, 104, 105, 102, 116, 45, 114, 105, 103, 104, 116]), .lit (.string [108, 101, 115, 115]), .lit (.string [108, 101, 115, 115, 45, 101, 113, 117, 97, 108]), .lit (.string [101, 113, 117, 97, 108]), .lit (.string [110, 111, 116, 45, 101, 113, 117, 97, 108]), .lit (.string [109, 105, 110]), .lit (.string [109, 97, 120]), .lit (.string [97, 98, 115]), .lit (.string [97, 98, 115, 45, 105, 110, 116]), .lit (.string [110, 101, 103, 97, 116, 101]), .lit (.string [110, 101, 103, 97, 116, 101, 45, 105, 110, 116]), .lit (.string [110, 111, 116, 45, 105, 110, 116]), .lit (.string [110, 111, 116, 45, 98, 111, 111, 108]), .lit (.string [102, 108, 111, 111, 114]), .lit (.string [102, 114, 97, 99, 116]), .lit (.string [115, 113, 114, 116]), .lit (.string [104, 97, 108, 102]), .lit (.string [102, 105, 120, 101, 100, 45, 111, 102, 45, 105, 110, 116]), .lit (.string [105, 110, 116, 45, 111, 102, 45, 102, 105, 120, 101, 100]), .lit (.string [98, 111, 111, 108, 45, 111, 102, 45, 105, 110, 116]), .lit (.string [115, 101, 108, 101, 99, 116]), .lit (.string [105, 110, 112, 117, 116]), .lit (.string [117, 110, 105, 102, 111, 114, 109]), .lit (.string [111, 117, 116, 112, 117, 116]), .lit (.string [115, 97, 109, 112, 108, 101]), .lit (.string [102, 101, 116, 99, 104]), .lit (.string [108, 111, 97, 100]), .lit (.string [105, 102]), .lit (.string [101, 108, 115, 101]), .lit (.string [101, 110, 100, 45, 105, 102]), .lit (.string [108, 111, 111, 112]), .lit (.string [98, 114, 101, 97, 107]), .lit (.string [99, 111, 110, 116, 105, 110, 117, 101]), .lit (.string [101, 110, 100, 45, 108, 111, 111, 112]), .lit (.string [100, 105, 115, 99, 97, 114, 100]), .lit (.string [101, 109, 105, 116]), .lit (.string [99, 117, 116])]

/-- 'frustumlaw22.IsaComputes': WHATEVER THE INPUT: true; the input reads as it did. -/
def isaComputesSpec : ChangeSpec := { name := "isaComputes", fn := fun _ => fun
  | [d] => { results := [.lit (.bool true)], args := [d] }
  | _ => none }
def isaComputesRow : OpenClaim := { program := "ytnhnbblplnhmlaagreatdoor", sum := "621866447b9150f28749d6b31f55296b8db9ebfd96cac6795e19a81cd42cba65", func := "frustum/frustumlaw22.IsaComputes", spec := "isaComputes", inPlace := ["internal/abi.NoEscape", "internal/bytealg.MakeNoZero"], recurses := true, named := ["frustum/isa.names", "internal/strconv.uint64pow10", "math/bits.deBruijn32tab", "math/bits.deBruijn64tab"], apart := false, laid := [("math/bits.deBruijn32tab", laid_math_bits_deBruijn32tab), ("math/bits.deBruijn64tab", laid_math_bits_deBruijn64tab), ("internal/strconv.uint64pow10", laid_internal_strconv_uint64pow10), ("frustum/isa.names", laid_frustum_isa_names)] }
def IsaComputesSaid : Prop := isaComputesRow.holds Tryz.pinned (OpenSpec.ofChange isaComputesSpec)

/-- ITS FALSE NEIGHBOUR: 'it returns false'. Refute it at one input. -/
def isaComputesWrong : ChangeSpec := { name := "isaComputes", fn := fun _ => fun
  | [d] => { results := [.lit (.bool false)], args := [d] }
  | _ => none }
def IsaComputesWrongFalsely : Prop := isaComputesRow.holds Tryz.pinned (OpenSpec.ofChange isaComputesWrong)

/-- 'frustumlaw22.IsaEncodes': WHATEVER THE INPUT: true; the input reads as it did. -/
def isaEncodesSpec : ChangeSpec := { name := "isaEncodes", fn := fun _ => fun
  | [d] => { results := [.lit (.bool true)], args := [d] }
  | _ => none }
def isaEncodesRow : OpenClaim := { program := "ytnhnbblplnhmlaagreatdoor", sum := "621866447b9150f28749d6b31f55296b8db9ebfd96cac6795e19a81cd42cba65", func := "frustum/frustumlaw22.IsaEncodes", spec := "isaEncodes", inPlace := ["internal/abi.NoEscape", "internal/bytealg.MakeNoZero"], named := ["frustum/isa.names", "internal/strconv.uint64pow10", "math/bits.deBruijn32tab", "math/bits.deBruijn64tab"], apart := false, laid := [("math/bits.deBruijn32tab", laid_math_bits_deBruijn32tab), ("math/bits.deBruijn64tab", laid_math_bits_deBruijn64tab), ("internal/strconv.uint64pow10", laid_internal_strconv_uint64pow10), ("frustum/isa.names", laid_frustum_isa_names)] }
def IsaEncodesSaid : Prop := isaEncodesRow.holds Tryz.pinned (OpenSpec.ofChange isaEncodesSpec)

/-- ITS FALSE NEIGHBOUR: 'it returns false'. Refute it at one input. -/
def isaEncodesWrong : ChangeSpec := { name := "isaEncodes", fn := fun _ => fun
  | [d] => { results := [.lit (.bool false)], args := [d] }
  | _ => none }
def IsaEncodesWrongFalsely : Prop := isaEncodesRow.holds Tryz.pinned (OpenSpec.ofChange isaEncodesWrong)

/-- 'frustumlaw22.IsaDecodes': WHATEVER THE INPUT: true; the input reads as it did. -/
def isaDecodesSpec : ChangeSpec := { name := "isaDecodes", fn := fun _ => fun
  | [d] => { results := [.lit (.bool true)], args := [d] }
  | _ => none }
def isaDecodesRow : OpenClaim := { program := "ytnhnbblplnhmlaagreatdoor", sum := "621866447b9150f28749d6b31f55296b8db9ebfd96cac6795e19a81cd42cba65", func := "frustum/frustumlaw22.IsaDecodes", spec := "isaDecodes", inPlace := ["internal/abi.NoEscape", "internal/bytealg.MakeNoZero"], named := ["frustum/isa.names", "internal/strconv.uint64pow10", "math/bits.deBruijn32tab", "math/bits.deBruijn64tab"], apart := false, laid := [("math/bits.deBruijn32tab", laid_math_bits_deBruijn32tab), ("math/bits.deBruijn64tab", laid_math_bits_deBruijn64tab), ("internal/strconv.uint64pow10", laid_internal_strconv_uint64pow10), ("frustum/isa.names", laid_frustum_isa_names)] }
def IsaDecodesSaid : Prop := isaDecodesRow.holds Tryz.pinned (OpenSpec.ofChange isaDecodesSpec)

/-- ITS FALSE NEIGHBOUR: 'it returns false'. Refute it at one input. -/
def isaDecodesWrong : ChangeSpec := { name := "isaDecodes", fn := fun _ => fun
  | [d] => { results := [.lit (.bool false)], args := [d] }
  | _ => none }
def IsaDecodesWrongFalsely : Prop := isaDecodesRow.holds Tryz.pinned (OpenSpec.ofChange isaDecodesWrong)

/-- 'frustumlaw22.IsaRoundTrip': WHATEVER THE INPUT: true; the input reads as it did. -/
def isaRoundTripSpec : ChangeSpec := { name := "isaRoundTrip", fn := fun _ => fun
  | [d1, d2] => { results := [.lit (.bool true)], args := [d1, d2] }
  | _ => none }
def isaRoundTripRow : OpenClaim := { program := "ytnhnbblplnhmlaagreatdoor", sum := "621866447b9150f28749d6b31f55296b8db9ebfd96cac6795e19a81cd42cba65", func := "frustum/frustumlaw22.IsaRoundTrip", spec := "isaRoundTrip", inPlace := ["internal/abi.NoEscape", "internal/bytealg.MakeNoZero"], named := ["frustum/isa.names", "internal/strconv.uint64pow10", "math/bits.deBruijn32tab", "math/bits.deBruijn64tab"], apart := false, laid := [("math/bits.deBruijn32tab", laid_math_bits_deBruijn32tab), ("math/bits.deBruijn64tab", laid_math_bits_deBruijn64tab), ("internal/strconv.uint64pow10", laid_internal_strconv_uint64pow10), ("frustum/isa.names", laid_frustum_isa_names)] }
def IsaRoundTripSaid : Prop := isaRoundTripRow.holds Tryz.pinned (OpenSpec.ofChange isaRoundTripSpec)

/-- ITS FALSE NEIGHBOUR: 'it returns false'. Refute it at one input. -/
def isaRoundTripWrong : ChangeSpec := { name := "isaRoundTrip", fn := fun _ => fun
  | [d1, d2] => { results := [.lit (.bool false)], args := [d1, d2] }
  | _ => none }
def IsaRoundTripWrongFalsely : Prop := isaRoundTripRow.holds Tryz.pinned (OpenSpec.ofChange isaRoundTripWrong)

/- THE SECOND FORM. 'bulk': how many values and letters a reading holds, each counted each time it is reached (what is shared counts as often as it is met; a slice's spare places count too). A statement '..UptoSaid' is the law's where the arguments, and the package variables that the reading takes, are together of bulk at most 1048576: NARROWER than '..Said'. Prove '..Said' where nothing that the law and all that it calls make is longer than what came in: it says more and counts as full. Else prove '..UptoSaid'. A law counts once. -/
mutual
def uptoBulk {H : Type} : DataW H → Nat
  | .lit (.string bytes) => bytes.length + 1
  | .lit _ => 1
  | .nil => 1
  | .ptr d => uptoBulk d + 1
  | .slice elems spare => uptoBulkAll elems + uptoBulkAll spare + 1
  | .agg parts => uptoBulkAll parts + 1
  | .iface _ d => uptoBulk d + 1
  | .map entries => uptoBulkEntries entries + 1
  | .held _ => 1
def uptoBulkAll {H : Type} : List (DataW H) → Nat
  | [] => 0
  | d :: r => uptoBulk d + uptoBulkAll r
def uptoBulkEntries {H : Type} : List (Lit × DataW H) → Nat
  | [] => 0
  | x :: r => uptoBulkEntry x + uptoBulkEntries r
def uptoBulkEntry {H : Type} : Lit × DataW H → Nat
  | (.string bytes, d) => bytes.length + uptoBulk d + 1
  | (_, d) => uptoBulk d + 1
 end
def uptoSmall : (H : Type) → List (DataW H) → Bool := fun _ ds => decide (uptoBulkAll ds ≤ 1048576)
def OpenSpec.upto (s : _root_.Go.ChangeSpec) : _root_.Go.OpenSpec := { _root_.Go.OpenSpec.ofChange s with cond := some uptoSmall }

/-- 'frustumlaw22.IsaComputes', WHERE WHAT IT READS IS OF BULK AT MOST 1048576: true; the input reads as it did. -/
def isaComputesUptoRow : OpenClaim := { program := "ytnhnbblplnhmlaagreatdoor", sum := "621866447b9150f28749d6b31f55296b8db9ebfd96cac6795e19a81cd42cba65", func := "frustum/frustumlaw22.IsaComputes", spec := "isaComputes", inPlace := ["internal/abi.NoEscape", "internal/bytealg.MakeNoZero"], recurses := true, named := ["frustum/isa.names", "internal/strconv.uint64pow10", "math/bits.deBruijn32tab", "math/bits.deBruijn64tab"], apart := false, laid := [("math/bits.deBruijn32tab", laid_math_bits_deBruijn32tab), ("math/bits.deBruijn64tab", laid_math_bits_deBruijn64tab), ("internal/strconv.uint64pow10", laid_internal_strconv_uint64pow10), ("frustum/isa.names", laid_frustum_isa_names)], narrowed := true }
def IsaComputesUptoSaid : Prop := isaComputesUptoRow.holds Tryz.pinned (OpenSpec.upto isaComputesSpec)

/-- 'frustumlaw22.IsaEncodes', WHERE WHAT IT READS IS OF BULK AT MOST 1048576: true; the input reads as it did. -/
def isaEncodesUptoRow : OpenClaim := { program := "ytnhnbblplnhmlaagreatdoor", sum := "621866447b9150f28749d6b31f55296b8db9ebfd96cac6795e19a81cd42cba65", func := "frustum/frustumlaw22.IsaEncodes", spec := "isaEncodes", inPlace := ["internal/abi.NoEscape", "internal/bytealg.MakeNoZero"], named := ["frustum/isa.names", "internal/strconv.uint64pow10", "math/bits.deBruijn32tab", "math/bits.deBruijn64tab"], apart := false, laid := [("math/bits.deBruijn32tab", laid_math_bits_deBruijn32tab), ("math/bits.deBruijn64tab", laid_math_bits_deBruijn64tab), ("internal/strconv.uint64pow10", laid_internal_strconv_uint64pow10), ("frustum/isa.names", laid_frustum_isa_names)], narrowed := true }
def IsaEncodesUptoSaid : Prop := isaEncodesUptoRow.holds Tryz.pinned (OpenSpec.upto isaEncodesSpec)

/-- 'frustumlaw22.IsaDecodes', WHERE WHAT IT READS IS OF BULK AT MOST 1048576: true; the input reads as it did. -/
def isaDecodesUptoRow : OpenClaim := { program := "ytnhnbblplnhmlaagreatdoor", sum := "621866447b9150f28749d6b31f55296b8db9ebfd96cac6795e19a81cd42cba65", func := "frustum/frustumlaw22.IsaDecodes", spec := "isaDecodes", inPlace := ["internal/abi.NoEscape", "internal/bytealg.MakeNoZero"], named := ["frustum/isa.names", "internal/strconv.uint64pow10", "math/bits.deBruijn32tab", "math/bits.deBruijn64tab"], apart := false, laid := [("math/bits.deBruijn32tab", laid_math_bits_deBruijn32tab), ("math/bits.deBruijn64tab", laid_math_bits_deBruijn64tab), ("internal/strconv.uint64pow10", laid_internal_strconv_uint64pow10), ("frustum/isa.names", laid_frustum_isa_names)], narrowed := true }
def IsaDecodesUptoSaid : Prop := isaDecodesUptoRow.holds Tryz.pinned (OpenSpec.upto isaDecodesSpec)

/-- 'frustumlaw22.IsaRoundTrip', WHERE WHAT IT READS IS OF BULK AT MOST 1048576: true; the input reads as it did. -/
def isaRoundTripUptoRow : OpenClaim := { program := "ytnhnbblplnhmlaagreatdoor", sum := "621866447b9150f28749d6b31f55296b8db9ebfd96cac6795e19a81cd42cba65", func := "frustum/frustumlaw22.IsaRoundTrip", spec := "isaRoundTrip", inPlace := ["internal/abi.NoEscape", "internal/bytealg.MakeNoZero"], named := ["frustum/isa.names", "internal/strconv.uint64pow10", "math/bits.deBruijn32tab", "math/bits.deBruijn64tab"], apart := false, laid := [("math/bits.deBruijn32tab", laid_math_bits_deBruijn32tab), ("math/bits.deBruijn64tab", laid_math_bits_deBruijn64tab), ("internal/strconv.uint64pow10", laid_internal_strconv_uint64pow10), ("frustum/isa.names", laid_frustum_isa_names)], narrowed := true }
def IsaRoundTripUptoSaid : Prop := isaRoundTripUptoRow.holds Tryz.pinned (OpenSpec.upto isaRoundTripSpec)

end Rows
end Go.Proofs.YtnhnbblplnhmlaaGreatDoor
