/- The walks of MaskCounts, MaskSets. -/
import Derived.Test.YtegmagjlkflecaaDoorK8
namespace Go.Proofs.YtegmagjlkflecaaDoor
open Go.RowKit Go.Sort

theorem andF_lt (a b : Nat) : andF a b < 65536 := msk16_lt _
theorem orF_lt (a b : Nat) : orF a b < 65536 := msk16_lt _
theorem andNotF_lt (a b : Nat) : andNotF a b < 65536 := msk16_lt _
theorem withF_lt (a : Nat) (x : Int) : withF a x < 65536 := msk16_lt _
theorem withoutF_lt (a : Nat) (x : Int) : withoutF a x < 65536 := msk16_lt _
theorem allF_lt (x : Int) : allF x < 65536 := msk16_lt _

end Go.Proofs.YtegmagjlkflecaaDoor
