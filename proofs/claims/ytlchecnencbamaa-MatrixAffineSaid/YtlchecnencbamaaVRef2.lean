/- What the calls of the reference of package vec return: the functions over one or two vectors. -/
import Derived.Test.YtlchecnencbamaaVec3
namespace Go.Proofs.Ytlchecnencbamaa
open Go.RowKit Go.Sort

theorem rlist_b (x0 x1 x2 x3 : Int) (w : World) : Calls Try.prog 55 #[.agg #[.int .i64 x0, .int .i64 x1, .int .i64 x2, .int .i64 x3]] w (LIs x0 x1 x2 x3 w) := by
  obtain ⟨a0, a1, a2, a3, BB⟩ := box4 w (.int .i64 x0) (.int .i64 x1) (.int .i64 x2) (.int .i64 x3) 25
  go_enter Try.func55, Try.ntmps55
  go_wp2
  go_ret
  exact ⟨_, rfl, by simp, by simp, by simp, by simp, bon BB (box_below _ _ _)⟩

end Go.Proofs.Ytlchecnencbamaa
