/- What limit, Function, TopLeft, Accepts of package edge and of the reference return. -/
import Derived.Test.YtaeocpjddhghdaaEGMath
namespace Go.Proofs.Ytaeocpjddhghdaa
set_option linter.unusedSimpArgs false
open Go.RowKit Go.Sort Go.ChangeShapes Go.WideShapes
set_option linter.unusedVariables false

theorem rlimit_b (x : Int) (w : World) : Calls Try.prog 38 #[.int .i64 x] w fun e w' => e = .returned (.int .i64 (onv x)) ∧ Below w.heap.size w w' := by
  go_enter Try.func38, Try.ntmps38
  go_wp2
  all_goals go_ret
  all_goals exact ⟨ret_int (by unfold onv; omega), Below.refl _ _⟩

end Go.Proofs.Ytaeocpjddhghdaa
