/- The walk of the law on Ratio: it answers true, whatever the numbers; of the world no more has changed than the count of the orders that were drawn. -/
import Derived.Test.YtneakdghangioaaCalls
namespace Go.Proofs.Ytneakdghangioaa
open Go.RowKit

set_option maxHeartbeats 1600000 in
theorem ratio_walk (n m d : Int) (w0 w : World) (hw : Drew w0 w) :
    Calls Try.prog 10 #[.int .i64 n, .int .i64 m, .int .i64 d] w fun e w' => e = .returned (.bool true) ∧ Drew w0 w' := by
  have bn := ratiov_bd n d
  have bm := ratiov_bd m d
  have m1 := ratiov_mono n m d
  have m2 := ratiov_mono m n d
  by_cases ho : d < 1 ∨ 4611686018427387904 < d
  · have e1 : (ratiov n d == 0) = true := by rw [ratiov_out n d ho]; rfl
    have e2 : (ratiov m d == 0) = true := by rw [ratiov_out m d ho]; rfl
    rcases Int.lt_trichotomy n m with hs | hs | hs
    · have m3 := m1 (by omega)
      clear m1 m2
      go_enter Try.func10, Try.ntmps10
      go_wp2_with (first | (go_at_call 36; refine (ratio_any _ _ w0 _ (by assumption)).mono ?_; rintro e w1 ⟨rfl, D1⟩) | (go_at_call 33; refine (example_any  w0 _ (by assumption)).mono ?_; rintro e w1 ⟨rfl, D1⟩))
      all_goals first | (go_ret; exact ⟨rfl, by assumption⟩) | (exfalso; simp only [beq_iff_eq] at *; omega)
    · subst hs
      clear m1 m2
      go_enter Try.func10, Try.ntmps10
      go_wp2_with (first | (go_at_call 36; refine (ratio_any _ _ w0 _ (by assumption)).mono ?_; rintro e w1 ⟨rfl, D1⟩) | (go_at_call 33; refine (example_any  w0 _ (by assumption)).mono ?_; rintro e w1 ⟨rfl, D1⟩))
      all_goals first | (go_ret; exact ⟨rfl, by assumption⟩) | (exfalso; simp only [beq_iff_eq] at *; omega)
    · have m3 := m2 (by omega)
      clear m1 m2
      go_enter Try.func10, Try.ntmps10
      go_wp2_with (first | (go_at_call 36; refine (ratio_any _ _ w0 _ (by assumption)).mono ?_; rintro e w1 ⟨rfl, D1⟩) | (go_at_call 33; refine (example_any  w0 _ (by assumption)).mono ?_; rintro e w1 ⟨rfl, D1⟩))
      all_goals first | (go_ret; exact ⟨rfl, by assumption⟩) | (exfalso; simp only [beq_iff_eq] at *; omega)
  · have e0 : (ratiov 0 d == 0) = true := by rw [ratiov_low 0 d (by omega)]; rfl
    have e1 : (ratiov d d == 65536) = true := by rw [ratiov_high d d (by omega) (by omega) (by omega)]; rfl
    have t1 : n < d ∨ (ratiov n d == 65536) = true := by
      by_cases h : n < d
      · exact Or.inl h
      · exact Or.inr (by rw [ratiov_high n d (by omega) (by omega) (by omega)]; rfl)
    have t2 : 0 < n ∨ (ratiov n d == 0) = true := by
      by_cases h : 0 < n
      · exact Or.inl h
      · exact Or.inr (by rw [ratiov_low n d (by omega)]; rfl)
    obtain ⟨o1, o2⟩ : 1 ≤ d ∧ d ≤ 4611686018427387904 := by omega
    clear ho
    have key : ∀ k : Nat, (n < m ∨ n = m ∨ m < n) := fun _ => by omega
    rcases key 0 with hs | hs | hs
    · have m3 := m1 (by omega)
      clear m1 m2 key
      rcases t1 with t1 | t1 <;> rcases t2 with t2 | t2
      all_goals
        go_enter Try.func10, Try.ntmps10
        go_wp2_with (first | (go_at_call 36; refine (ratio_any _ _ w0 _ (by assumption)).mono ?_; rintro e w1 ⟨rfl, D1⟩) | (go_at_call 33; refine (example_any  w0 _ (by assumption)).mono ?_; rintro e w1 ⟨rfl, D1⟩))
        all_goals first | (go_ret; exact ⟨rfl, by assumption⟩) | (exfalso; simp only [beq_iff_eq] at *; omega)
    · subst hs
      clear m1 m2 key
      rcases t1 with t1 | t1 <;> rcases t2 with t2 | t2
      all_goals
        go_enter Try.func10, Try.ntmps10
        go_wp2_with (first | (go_at_call 36; refine (ratio_any _ _ w0 _ (by assumption)).mono ?_; rintro e w1 ⟨rfl, D1⟩) | (go_at_call 33; refine (example_any  w0 _ (by assumption)).mono ?_; rintro e w1 ⟨rfl, D1⟩))
        all_goals first | (go_ret; exact ⟨rfl, by assumption⟩) | (exfalso; simp only [beq_iff_eq] at *; omega)
    · have m3 := m2 (by omega)
      clear m1 m2 key
      rcases t1 with t1 | t1 <;> rcases t2 with t2 | t2
      all_goals
        go_enter Try.func10, Try.ntmps10
        go_wp2_with (first | (go_at_call 36; refine (ratio_any _ _ w0 _ (by assumption)).mono ?_; rintro e w1 ⟨rfl, D1⟩) | (go_at_call 33; refine (example_any  w0 _ (by assumption)).mono ?_; rintro e w1 ⟨rfl, D1⟩))
        all_goals first | (go_ret; exact ⟨rfl, by assumption⟩) | (exfalso; simp only [beq_iff_eq] at *; omega)

end Go.Proofs.Ytneakdghangioaa
