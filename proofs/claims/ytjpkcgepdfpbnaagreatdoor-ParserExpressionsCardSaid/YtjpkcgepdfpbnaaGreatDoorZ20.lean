/- A world in which the variables that the rows list lie; what a frame wants. -/
import Derived.Test.YtjpkcgepdfpbnaaGreatDoorG12
import Derived.Test.YtjpkcgepdfpbnaaGreatDoorZ19
import Derived.SizedLaws
namespace Go.Proofs.YtjpkcgepdfpbnaaGreatDoor
open Go.ChangeShapes Go.WideShapes Go.RowKit

theorem maxLen_is {n : Nat} (h : n ≤ maxLen) : n ≤ 9223372036854775807 := h
theorem reach_is {s : ByteArray} (h : s.data.toList.length ≤ reachBytes) : s.size ≤ 140737488351232 := by
  have h3 : s.data.toList.length = s.size := by rw [Array.length_toList]; rfl
  have h4 : reachBytes = 140737488351232 := rfl
  omega

abbrev synS : ByteArray := { data := #[105, 110, 118, 97, 108, 105, 100, 32, 115, 121, 110, 116, 97, 120] }
abbrev rngS : ByteArray := { data := #[118, 97, 108, 117, 101, 32, 111, 117, 116, 32, 111, 102, 32, 114, 97, 110, 103, 101] }
/-- So many blocks has the settled world. -/
noncomputable def low : Nat := (World.holding Tryz.prog default ⟨#[], #[], []⟩).heap.size
/-- A block's cells anew. -/
def lay (cs : Array Value) : Obj → Obj
  | .cells _ t frozen => .cells cs t frozen
  | o => o
def tab (k : IntKind) (zs : List Nat) : Array Value := (zs.map fun z : Nat => Value.int k (z : Int)).toArray

noncomputable def laidWorld (os : Os) : World :=
  let w0 := World.holding Tryz.prog os ⟨#[.cells #[.string synS] 196, .cells #[.string rngS] 196], #[], []⟩
  { w0 with heap := (((((w0.heap.modify 1 (lay #[.iface 194 (.pointer (some ⟨low, 0, none⟩))])).modify
    2 (lay #[.iface 194 (.pointer (some ⟨low + 1, 0, none⟩))])).modify
    3 (lay (tab .u64 [1, 10, 100, 1000, 10000, 100000, 1000000, 10000000, 100000000, 1000000000, 10000000000, 100000000000, 1000000000000, 10000000000000, 100000000000000, 1000000000000000, 10000000000000000, 100000000000000000, 1000000000000000000, 10000000000000000000]))).modify
    4 (lay (tab .u8 [0, 1, 28, 2, 29, 14, 24, 3, 30, 22, 20, 15, 25, 17, 4, 8, 31, 27, 13, 23, 21, 19, 16, 7, 26, 12, 18, 6, 11, 5, 10, 9]))).modify
    5 (lay (tab .u8 [0, 1, 56, 2, 57, 49, 28, 3, 61, 58, 42, 50, 38, 29, 17, 4, 62, 47, 59, 36, 45, 43, 51, 22, 53, 39, 33, 30, 24, 18, 12, 5, 63, 55, 48, 27, 60, 41, 37, 16, 46, 35, 44, 21, 52, 32, 23, 11, 54, 26, 40, 15, 34, 20, 31, 10, 25, 14, 19, 9, 13, 8, 7, 6]))) }

end Go.Proofs.YtjpkcgepdfpbnaaGreatDoor
