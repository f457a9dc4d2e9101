/- Edge functions, in plain numbers. -/
import Derived.Test.YtcnemjkcihlpeaaCU2
namespace Go.Proofs.Ytcnemjkcihlpeaa
set_option linter.unusedSimpArgs false
open Go.RowKit Go.Sort Go.ChangeShapes Go.WideShapes
set_option linter.unusedVariables false

def onv (x : Int) : Int := max 0 (min x 16384)

theorem onv_bd (x : Int) : 0 ≤ onv x ∧ onv x ≤ 16384 := by unfold onv; omega

theorem onv_id (x : Int) (h0 : 0 ≤ x) (h1 : x ≤ 16384) : onv x = x := by unfold onv; omega

def efn (ax ay bx by' px py : Int) : Int := (onv bx - onv ax) * (onv py - onv ay) - (onv by' - onv ay) * (onv px - onv ax)

def tlv (ax ay bx by' : Int) : Bool := decide (onv by' < onv ay) || (decide (onv ay = onv by') && decide (onv ax < onv bx))

def acc (ax ay bx by' px py : Int) : Bool := decide (0 < efn ax ay bx by' px py) || (decide (efn ax ay bx by' px py = 0) && tlv ax ay bx by')

theorem efn_prods (ax ay bx by' px py : Int) : (-268435456 ≤ (onv bx - onv ax) * (onv py - onv ay) ∧ (onv bx - onv ax) * (onv py - onv ay) ≤ 268435456) ∧ (-268435456 ≤ (onv by' - onv ay) * (onv px - onv ax) ∧ (onv by' - onv ay) * (onv px - onv ax) ≤ 268435456) := by
  have h1 := onv_bd ax
  have h2 := onv_bd ay
  have h3 := onv_bd bx
  have h4 := onv_bd by'
  have h5 := onv_bd px
  have h6 := onv_bd py
  exact ⟨prod_bd _ _ 16384 (by omega) (by omega), prod_bd _ _ 16384 (by omega) (by omega)⟩

theorem efn_bd (ax ay bx by' px py : Int) : -536870912 ≤ efn ax ay bx by' px py ∧ efn ax ay bx by' px py ≤ 536870912 := by
  have := efn_prods ax ay bx by' px py
  unfold efn
  omega

theorem efn_neg (ax ay bx by' px py : Int) : efn bx by' ax ay px py = -efn ax ay bx by' px py := by
  unfold efn
  grind

theorem tlv_neg (ax ay bx by' : Int) (h : ¬ (onv ax = onv bx ∧ onv ay = onv by')) : tlv bx by' ax ay = !tlv ax ay bx by' := by
  unfold tlv
  rw [Bool.eq_iff_iff]
  simp
  omega

theorem tlv_same (ax ay bx by' : Int) (h1 : onv ax = onv bx) (h2 : onv ay = onv by') : tlv ax ay bx by' = false := by
  unfold tlv
  simp
  omega

theorem efn_same (ax ay bx by' px py : Int) (h1 : onv ax = onv bx) (h2 : onv ay = onv by') : efn ax ay bx by' px py = 0 := by
  unfold efn
  rw [h1, h2, Int.sub_self, Int.sub_self, Int.zero_mul, Int.zero_mul]
  rfl

end Go.Proofs.Ytcnemjkcihlpeaa
