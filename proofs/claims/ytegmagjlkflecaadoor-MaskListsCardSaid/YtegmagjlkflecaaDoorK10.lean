/- The walk of MaskSets. Written by tools/gen/genK10.py. -/
import Derived.Test.YtegmagjlkflecaaDoorK9
namespace Go.Proofs.YtegmagjlkflecaaDoor
open Go.RowKit Go.Sort

theorem hasB_msk {f : Nat → Bool} {i : Nat} (h : i < 16) : hasB (msk f 16) (i : Int) = f i := by
  rw [hasB_in h, msk_bit, decide_eq_true h, Bool.true_and]

/-- A lane taken away after it was added. -/
theorem without_with (a : Nat) (x : Int) : withoutF (withF a x) x = withoutF a x := by
  unfold withoutF
  refine msk_congr fun i hi => ?_
  unfold withF
  rw [msk_bit, decide_eq_true hi, Bool.true_and]
  by_cases h : (i : Int) = x
  · simp [h]
  · simp [h]

theorem b3 (p x y : Bool) : ((p && x) && (p && y)) = (p && (x && y)) := by cases p <;> cases x <;> cases y <;> rfl
theorem b4 (p x y : Bool) : ((p && x) || (p && y)) = (p && (x || y)) := by cases p <;> cases x <;> cases y <;> rfl
theorem b5 (p x y : Bool) : ((p && x) && !(p && y)) = (p && (x && !y)) := by cases p <;> cases x <;> cases y <;> rfl
theorem b6 (lane : Int) (x : Bool) : (decide (0 ≤ lane ∧ lane < 16) && (x || decide (((lane.toNat : Nat) : Int) = lane))) = decide (0 ≤ lane ∧ lane < 16) := by
  by_cases h : 0 ≤ lane ∧ lane < 16
  · rw [decide_eq_true h, decide_eq_true (show ((lane.toNat : Nat) : Int) = lane by omega)]; simp
  · rw [decide_eq_false h]; rfl
theorem b7 (lane : Int) (x : Bool) : (decide (0 ≤ lane ∧ lane < 16) && (decide (((lane.toNat : Nat) : Int) ≠ lane) && x)) = false := by
  by_cases h : 0 ≤ lane ∧ lane < 16
  · rw [decide_eq_false (show ¬ ((lane.toNat : Nat) : Int) ≠ lane by omega)]; simp
  · rw [decide_eq_false h]; rfl

end Go.Proofs.YtegmagjlkflecaaDoor
