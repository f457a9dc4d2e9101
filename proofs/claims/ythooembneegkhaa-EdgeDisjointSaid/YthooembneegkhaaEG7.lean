/- The walk of EdgeDisjoint. -/
import Derived.Test.YthooembneegkhaaEG6n
import Derived.Test.YthooembneegkhaaEG6t
import Derived.Test.YthooembneegkhaaEG6u
namespace Go.Proofs.Ythooembneegkhaa
set_option linter.unusedSimpArgs false
open Go.RowKit Go.Sort Go.ChangeShapes Go.WideShapes
set_option linter.unusedVariables false

theorem disjoint_walk (e0 e1 e2 e3 e4 e5 e6 e7 px py : Int) (w : World) : Calls Try.prog 7 #[.agg #[.int .i64 e0, .int .i64 e1, .int .i64 e2, .int .i64 e3, .int .i64 e4, .int .i64 e5, .int .i64 e6, .int .i64 e7], .agg #[.int .i64 px, .int .i64 py]] w fun e w' => e = .returned (.bool true) ∧ Below w.heap.size w w' := by
  cases hx : cov ⟨e0, e1, 0, 0, none, 0, 0⟩ ⟨e2, e3, 0, 0, none, 0, 0⟩ ⟨e4, e5, 0, 0, none, 0, 0⟩ px py
  · cases hy : cov ⟨e2, e3, 0, 0, none, 0, 0⟩ ⟨e0, e1, 0, 0, none, 0, 0⟩ ⟨e6, e7, 0, 0, none, 0, 0⟩ px py
    · exact disjoint_no e0 e1 e2 e3 e4 e5 e6 e7 px py hx hy w
    · exact disjoint_u e0 e1 e2 e3 e4 e5 e6 e7 px py hx hy (cov_valid _ _ _ _ _ hy) w
  · exact disjoint_t e0 e1 e2 e3 e4 e5 e6 e7 px py hx (cov_one _ _ _ _ _ _ hx) (cov_valid _ _ _ _ _ hx) w

end Go.Proofs.Ythooembneegkhaa
