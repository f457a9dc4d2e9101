/- What Compare, ValidCompare of package depth and of the reference return. -/
import Derived.Test.YtigjamfnekaeeaaDPMath
import Derived.Test.YtigjamfnekaeeaaFixedB
import Derived.Test.YtigjamfnekaeeaaBelow
namespace Go.Proofs.Ytigjamfnekaeeaa
set_option linter.unusedSimpArgs false
open Go.RowKit Go.Sort

set_option maxRecDepth 100000 in
theorem compare_b (c a b : Int) (w : World) : Calls Try.prog 23 #[.int .i64 c, .int .i64 a, .int .i64 b] w fun e w' => e = .returned (.bool (cmpv c a b)) ∧ Below w.heap.size w w' := by
  rcases c_cases c with rfl | rfl | rfl | rfl | rfl | rfl | rfl | ⟨h2, h3, h4, h5, h6, h7, h8⟩
  all_goals
    go_enter Try.func23, Try.ntmps23
    go_wp2
    all_goals go_ret
    all_goals exact ⟨ret_bool (by first | (simp_all [cmpv]; done) | (rw [Bool.eq_iff_iff]; simp_all [cmpv])), Below.refl _ _⟩

set_option maxRecDepth 100000 in
theorem rcompare_b (c a b : Int) (w : World) : Calls Try.prog 24 #[.int .i64 c, .int .i64 a, .int .i64 b] w fun e w' => e = .returned (.bool (cmpv c a b)) ∧ Below w.heap.size w w' := by
  rcases c_cases c with rfl | rfl | rfl | rfl | rfl | rfl | rfl | ⟨h2, h3, h4, h5, h6, h7, h8⟩
  all_goals
    go_enter Try.func24, Try.ntmps24
    go_wp2
    all_goals go_ret
    all_goals exact ⟨ret_bool (by first | (simp_all [cmpv]; done) | (rw [Bool.eq_iff_iff]; simp_all [cmpv])), Below.refl _ _⟩

set_option maxRecDepth 100000 in
theorem vcompare_b (c : Int) (w : World) : Calls Try.prog 30 #[.int .i64 c] w fun e w' => e = .returned (.bool (vcmp c)) ∧ Below w.heap.size w w' := by
  rcases (show c < 1 ∨ (1 ≤ c ∧ c ≤ 8) ∨ 8 < c by omega) with h | ⟨h, h'⟩ | h
  all_goals
    go_enter Try.func30, Try.ntmps30
    go_wp2
    all_goals go_ret
    all_goals exact ⟨ret_bool (by unfold vcmp; simp <;> omega), Below.refl _ _⟩

set_option maxRecDepth 100000 in
theorem rvcompare_b (c : Int) (w : World) : Calls Try.prog 31 #[.int .i64 c] w fun e w' => e = .returned (.bool (vcmp c)) ∧ Below w.heap.size w w' := by
  rcases (show c < 1 ∨ (1 ≤ c ∧ c ≤ 8) ∨ 8 < c by omega) with h | ⟨h, h'⟩ | h
  all_goals
    go_enter Try.func31, Try.ntmps31
    go_wp2
    all_goals go_ret
    all_goals exact ⟨ret_bool (by unfold vcmp; simp <;> omega), Below.refl _ _⟩

end Go.Proofs.Ytigjamfnekaeeaa
