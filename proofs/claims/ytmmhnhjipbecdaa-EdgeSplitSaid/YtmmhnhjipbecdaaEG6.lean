/- The walk of EdgeDisjoint. -/
import Derived.Test.YtmmhnhjipbecdaaEG4
namespace Go.Proofs.Ytmmhnhjipbecdaa
set_option linter.unusedSimpArgs false
open Go.RowKit Go.Sort Go.ChangeShapes Go.WideShapes
set_option linter.unusedVariables false

theorem rk_p2 : RowK Try.prog 22 2 := ⟨⟨_, Try.underlying22, rfl⟩, by kernel_rfl⟩

theorem zero_p2 : ZeroIs Try.prog 22 #[.int .i64 0, .int .i64 0] := zeroIs_of (by kernel_rfl)

theorem zero_tr : ZeroIs Try.prog 34 #[.int .i64 0, .int .i64 0, .int .i64 0, .int .i64 0, .slice none 0 0, .int .i64 0, .int .i64 0, .int .i64 0, .int .i64 0, .slice none 0 0, .int .i64 0, .int .i64 0, .int .i64 0, .int .i64 0, .slice none 0 0, .int .i64 0, .bool false] := zeroIs_of (by kernel_rfl)

theorem acc_one (ax ay bx by' px py : Int) (h : acc ax ay bx by' px py = true) : acc bx by' ax ay px py = false := by
  by_cases hs : onv ax = onv bx ∧ onv ay = onv by'
  · simp [acc, efn_same bx by' ax ay px py hs.1.symm hs.2.symm, tlv_same bx by' ax ay hs.1.symm hs.2.symm]
  · have h1 := efn_neg ax ay bx by' px py
    have h2 := tlv_neg ax ay bx by' hs
    unfold acc at h ⊢
    rw [h1, h2]
    revert h
    generalize efn ax ay bx by' px py = f
    cases tlv ax ay bx by' <;> simp <;> omega

theorem cov_one (a b c d : SV) (px py : Int) (h : cov a b c px py = true) : cov b a d px py = false := by
  unfold cov at h ⊢
  simp only [Bool.and_eq_true] at h
  rw [acc_one _ _ _ _ _ _ h.2.1, Bool.false_and, Bool.and_false]

theorem cov_valid (a b c : SV) (px py : Int) (h : cov a b c px py = true) : trv a b c = true := by
  unfold cov at h
  simp only [Bool.and_eq_true] at h
  exact h.1

end Go.Proofs.Ytmmhnhjipbecdaa
