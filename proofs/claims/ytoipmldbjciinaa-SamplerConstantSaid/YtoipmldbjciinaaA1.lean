/- What the reference of addressing returns. -/
import Derived.Test.YtoipmldbjciinaaAMath
import Derived.WalkKit
import Derived.Outline
import Derived.WalkSpells
import Derived.Test.YtoipmldbjciinaaChecked
namespace Go.Proofs.Ytoipmldbjciinaa
open Go.RowKit Go.Sort

set_option maxRecDepth 100000 in
theorem ravalid_q (m : Int) (w : World) : Calls Try.prog 40 #[.int .i64 m] w fun e w' => e = .returned (.bool (avalid m)) ∧ w = w' := by
  by_cases h : 1 ≤ m ∧ m ≤ 4
  · have e : avalid m = true := decide_eq_true h
    rw [e]
    rcases (show m = 1 ∨ m = 2 ∨ m = 3 ∨ m = 4 by omega) with rfl | rfl | rfl | rfl
    all_goals (go_enter Try.func40, Try.ntmps40; go_wp2; go_ret; exact ⟨rfl, rfl⟩)
  · have e : avalid m = false := decide_eq_false h
    rw [e]
    rcases (show m < 1 ∨ 4 < m by omega) with h | h
    all_goals (go_enter Try.func40, Try.ntmps40; go_wp2; go_ret; exact ⟨congrArg (fun b => Ending.returned (.bool b)) (by simp <;> omega), rfl⟩)

/-- Pair's two indices. -/
def rPairGives (m i s : Int) (w : World) (e : Ending) (w' : World) : Prop := e = .returned (.tuple #[.int .i64 (idxv m i s), .int .i64 (idxv m (succv i) s)]) ∧ w = w'

end Go.Proofs.Ytoipmldbjciinaa
