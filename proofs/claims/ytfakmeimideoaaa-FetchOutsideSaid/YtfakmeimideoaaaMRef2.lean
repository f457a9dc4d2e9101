/- What Encode and Quantize of the reference return. -/
import Derived.Test.YtfakmeimideoaaaMRef
namespace Go.Proofs.Ytfakmeimideoaaa
open Go.RowKit Go.Sort

/-- The absolute value of the saturated number. -/
def mag (x : Int) : Int := if x < 0 then -sat x else sat x
theorem mag_bd (x : Int) : 0 ≤ mag x ∧ mag x < 536870912 := by
  have := sat_bd x
  have := sat_neg_iff x
  unfold mag; split <;> omega

end Go.Proofs.Ytfakmeimideoaaa
