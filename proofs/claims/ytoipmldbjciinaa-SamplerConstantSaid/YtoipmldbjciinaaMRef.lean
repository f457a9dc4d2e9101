/- What the calls of the reference of package minifloat return. -/
import Derived.Test.YtoipmldbjciinaaMMath
namespace Go.Proofs.Ytoipmldbjciinaa
open Go.RowKit Go.Sort

/-! ### Decode -/
theorem rdm_bd (e m b : Int) (h1 : 2 ≤ e) (h2 : e ≤ 5) (h3 : 1 ≤ m) (h4 : m ≤ 10) : 0 ≤ rdm e m b ∧ rdm e m b ≤ 1125899906842624 := by
  have := scal_bd e m b h1 h2 h3 h4
  unfold rdm; split
  · split <;> omega
  · omega

end Go.Proofs.Ytoipmldbjciinaa

/- What Encode and Quantize of the reference return. -/
namespace Go.Proofs.Ytoipmldbjciinaa
open Go.RowKit Go.Sort

/-- The absolute value of the saturated number. -/
def mag (x : Int) : Int := if x < 0 then -sat x else sat x
theorem mag_bd (x : Int) : 0 ≤ mag x ∧ mag x < 536870912 := by
  have := sat_bd x
  have := sat_neg_iff x
  unfold mag; split <;> omega

end Go.Proofs.Ytoipmldbjciinaa
