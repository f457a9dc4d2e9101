/- What Compare, ValidCompare of package depth and of the reference return. -/
import Derived.Test.YtelmffejljegfaaDPMath
import Derived.Test.YtelmffejljegfaaFixedB
import Derived.Test.YtelmffejljegfaaBelow
namespace Go.Proofs.Ytelmffejljegfaa
set_option linter.unusedSimpArgs false
open Go.RowKit Go.Sort

set_option maxRecDepth 100000 in
theorem compare_b (c a b : Int) (w : World) : Calls Try.prog 18 #[.int .i64 c, .int .i64 a, .int .i64 b] w fun e w' => e = .returned (.bool (cmpv c a b)) ∧ Below w.heap.size w w' := by
  rcases c_cases c with rfl | rfl | rfl | rfl | rfl | rfl | rfl | ⟨h2, h3, h4, h5, h6, h7, h8⟩
  all_goals
    go_enter Try.func18, Try.ntmps18
    go_wp2
    all_goals go_ret
    all_goals exact ⟨ret_bool (by first | (simp_all [cmpv]; done) | (rw [Bool.eq_iff_iff]; simp_all [cmpv])), Below.refl _ _⟩

set_option maxRecDepth 100000 in
theorem rcompare_b (c a b : Int) (w : World) : Calls Try.prog 19 #[.int .i64 c, .int .i64 a, .int .i64 b] w fun e w' => e = .returned (.bool (cmpv c a b)) ∧ Below w.heap.size w w' := by
  rcases c_cases c with rfl | rfl | rfl | rfl | rfl | rfl | rfl | ⟨h2, h3, h4, h5, h6, h7, h8⟩
  all_goals
    go_enter Try.func19, Try.ntmps19
    go_wp2
    all_goals go_ret
    all_goals exact ⟨ret_bool (by first | (simp_all [cmpv]; done) | (rw [Bool.eq_iff_iff]; simp_all [cmpv])), Below.refl _ _⟩

set_option maxRecDepth 100000 in
theorem vcompare_b (c : Int) (w : World) : Calls Try.prog 20 #[.int .i64 c] w fun e w' => e = .returned (.bool (vcmp c)) ∧ Below w.heap.size w w' := by
  rcases (show c < 1 ∨ (1 ≤ c ∧ c ≤ 8) ∨ 8 < c by omega) with h | ⟨h, h'⟩ | h
  all_goals
    go_enter Try.func20, Try.ntmps20
    go_wp2
    all_goals go_ret
    all_goals exact ⟨ret_bool (by unfold vcmp; simp <;> omega), Below.refl _ _⟩

set_option maxRecDepth 100000 in
theorem rvcompare_b (c : Int) (w : World) : Calls Try.prog 21 #[.int .i64 c] w fun e w' => e = .returned (.bool (vcmp c)) ∧ Below w.heap.size w w' := by
  rcases (show c < 1 ∨ (1 ≤ c ∧ c ≤ 8) ∨ 8 < c by omega) with h | ⟨h, h'⟩ | h
  all_goals
    go_enter Try.func21, Try.ntmps21
    go_wp2
    all_goals go_ret
    all_goals exact ⟨ret_bool (by unfold vcmp; simp <;> omega), Below.refl _ _⟩

end Go.Proofs.Ytelmffejljegfaa
