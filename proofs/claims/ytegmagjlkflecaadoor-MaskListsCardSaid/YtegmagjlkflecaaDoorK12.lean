/- From what the row of MaskLists lists to what TrailingZeros16 reads; a world in which it lies, for the witness. -/
import Derived.Test.YtegmagjlkflecaaDoorRows
import Derived.Test.YtegmagjlkflecaaDoorK11
import Derived.Lib.LaidTab
import Derived.SizedLaws
import GoSem.PinnedTables
namespace Go.Proofs.YtegmagjlkflecaaDoor
open Go.ChangeShapes Go.WideShapes Go.RowKit

theorem gBru : Tryd.prog.globalNamed "math/bits.deBruijn32tab" = some 0 := by kernel_rfl
theorem gBruType : (Tryd.prog.globals[0]?).map (·.type) = some 36 := by kernel_rfl
theorem cellsBru : Tryd.prog.cellsOf 36 = 32 := by kernel_rfl
theorem cellsU8 : Tryd.prog.cellsOf 5 = 1 := by kernel_rfl
def bruTab : List Int := Lib.deBruijn32tab.map fun n : Nat => (n : Int)
theorem bru_data : (Rows.laid_math_bits_deBruijn32tab : DataW Unit) = Lib.tabData .u8 bruTab := by kernel_rfl

theorem bru_of {W : World} {r : List (String × DataW Unit)} (h : laidMet Tryd.prog (("math/bits.deBruijn32tab", Rows.laid_math_bits_deBruijn32tab) :: r) W) : BruAt W := by
  rw [bru_data] at h
  have T := Lib.tabIs_of_head gBru gBruType Tryd.underlying36 Tryd.underlying5 cellsU8 cellsBru h
  refine ⟨rfl, fun j hj => ?_⟩
  have c := T.cell gBru j (by simpa [bruTab, Lib.deBruijn32tab] using hj)
  rw [c]
  congr 2
  unfold bruTab
  rw [List.getD, List.getD, List.getElem?_map]
  cases Lib.deBruijn32tab[j]? <;> rfl

/-- A block's cells anew. -/
def lay (cs : Array Value) : Obj → Obj
  | .cells _ t frozen => .cells cs t frozen
  | o => o
def tab (k : IntKind) (zs : List Nat) : Array Value := (zs.map fun z : Nat => Value.int k (z : Int)).toArray
noncomputable def laidWorld (os : Os) : World :=
  let w0 := World.holding Tryd.prog os ⟨#[], #[], []⟩
  { w0 with heap := (w0.heap.modify 0 (lay (tab .u8 [0, 1, 28, 2, 29, 14, 24, 3, 30, 22, 20, 15, 25, 17, 4, 8, 31, 27, 13, 23, 21, 19, 16, 7, 26, 12, 18, 6, 11, 5, 10, 9]))) }

end Go.Proofs.YtegmagjlkflecaaDoor
