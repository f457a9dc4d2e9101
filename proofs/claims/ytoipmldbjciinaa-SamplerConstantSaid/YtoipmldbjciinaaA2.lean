/- What package address returns. -/
import Derived.Test.YtoipmldbjciinaaA1
import Derived.WalkKit
import Derived.Outline
import Derived.WalkSpells
import Derived.Test.YtoipmldbjciinaaChecked
namespace Go.Proofs.Ytoipmldbjciinaa
open Go.RowKit Go.Sort

set_option maxRecDepth 100000 in
theorem valid_q (m : Int) (w : World) : Calls Try.prog 30 #[.int .i64 m] w fun e w' => e = .returned (.bool (avalid m)) ∧ w = w' := by
  by_cases h : 1 ≤ m ∧ m ≤ 4
  · have e : avalid m = true := decide_eq_true h
    rw [e]
    rcases (show m = 1 ∨ m = 2 ∨ m = 3 ∨ m = 4 by omega) with rfl | rfl | rfl | rfl
    all_goals (go_enter Try.func30, Try.ntmps30; go_wp2; go_ret; exact ⟨rfl, rfl⟩)
  · have e : avalid m = false := decide_eq_false h
    rw [e]
    rcases (show m < 1 ∨ 4 < m by omega) with h | h
    all_goals (go_enter Try.func30, Try.ntmps30; go_wp2; go_ret; exact ⟨congrArg (fun b => Ending.returned (.bool b)) (by simp <;> omega), rfl⟩)

set_option maxRecDepth 100000 in
theorem mod_q (i n : Int) (w : World) (h3 : n ≤ 9223372036854775807) : Calls Try.prog 59 #[.int .i64 i, .int .i64 n] w fun e w' => e = .returned (.int .i64 (modv i n)) ∧ w = w' := by
  by_cases hn : n < 1
  · have e : modv i n = 0 := by unfold modv; rw [if_pos hn]
    rw [e]
    clear e
    go_enter Try.func59, Try.ntmps59
    go_wp2
    go_ret
    exact ⟨rfl, rfl⟩
  · obtain ⟨t, ht, t1, t2, t3, t4⟩ := tmod_steps i n (by omega)
    have e : modv i n = i % n := by unfold modv; rw [if_neg hn]
    rw [e]
    have hn1 : 1 ≤ n := by omega
    clear e hn
    by_cases h : t < 0
    · rw [t3 h]
      clear t3 t4
      go_enter Try.func59, Try.ntmps59
      go_wp2
      go_ret
      exact ⟨rfl, rfl⟩
    · have h0 : 0 ≤ t := by omega
      rw [t4 h0]
      clear t3 t4
      go_enter Try.func59, Try.ntmps59
      go_wp2
      go_ret
      exact ⟨rfl, rfl⟩

set_option maxRecDepth 100000 in
theorem isSize_q (s : Int) (w : World) : Calls Try.prog 58 #[.int .i64 s] w fun e w' => e = .returned (.bool (decide (1 ≤ s ∧ s ≤ 64))) ∧ w = w' := by
  by_cases h : 1 ≤ s ∧ s ≤ 64
  · rw [decide_eq_true h]
    go_enter Try.func58, Try.ntmps58
    go_wp2
    go_ret
    exact ⟨rfl, rfl⟩
  · rw [decide_eq_false h]
    rcases (show s < 1 ∨ (1 ≤ s ∧ 64 < s) by omega) with h1 | ⟨h1, h2⟩
    all_goals (clear h; go_enter Try.func58, Try.ntmps58; go_wp2; go_ret; exact ⟨congrArg (fun b => Ending.returned (.bool b)) (by simp <;> omega), rfl⟩)

set_option maxRecDepth 100000 in
theorem index_q (m i s : Int) (w : World) : Calls Try.prog 52 #[.int .i64 m, .int .i64 i, .int .i64 s] w fun e w' => e = .returned (.int .i64 (idxv m i s)) ∧ w = w' := by
  have cv := fun W => isSize_q s W
  by_cases h : 1 ≤ s ∧ s ≤ 64
  · rw [decide_eq_true h] at cv
    have CV := Lib.hid cv
    clear cv
    rcases (show m = 1 ∨ m = 2 ∨ m = 3 ∨ m = 4 ∨ (m ≠ 1 ∧ m ≠ 2 ∧ m ≠ 3 ∧ m ≠ 4) by omega) with rfl | rfl | rfl | rfl | g
    · have c1 := fun W => mod_q i s W (by omega)
      have e : modv i s = i % s := by unfold modv; rw [if_neg (by omega)]
      rw [e] at c1
      rw [idxv_one h]
      obtain ⟨r, hr⟩ : ∃ r, i % s = r := ⟨_, rfl⟩
      rw [hr] at c1 ⊢
      have C1 := Lib.hid c1
      clear c1 hr e
      go_enter Try.func52, Try.ntmps52
      go_wp2_with (first | (go_at_call 58; with_reducible refine (CV.out _).mono ?_; rintro _ _ ⟨rfl, rfl⟩) | (go_at_call 59; with_reducible refine (C1.out _).mono ?_; rintro _ _ ⟨rfl, rfl⟩))
      all_goals go_ret
      all_goals first | exact ⟨rfl, rfl⟩ | exact ⟨congrArg (fun z => Ending.returned (.int .i64 z)) (by omega), rfl⟩
    · have c1 := fun W => mod_q i (2 * s) W (by omega)
      have e : modv i (2 * s) = i % (2 * s) := by unfold modv; rw [if_neg (by omega)]
      have hr0 := modv_rng i (2 * s) (by omega)
      rw [e] at c1
      rw [idxv_two h]
      obtain ⟨r, hr⟩ : ∃ r, i % (2 * s) = r := ⟨_, rfl⟩
      rw [hr] at c1 hr0 ⊢
      have C1 := Lib.hid c1
      clear c1 hr e
      by_cases hl : r < s
      · rw [if_pos hl]
        go_enter Try.func52, Try.ntmps52
        go_wp2_with (first | (go_at_call 58; with_reducible refine (CV.out _).mono ?_; rintro _ _ ⟨rfl, rfl⟩) | (go_at_call 59; with_reducible refine (C1.out _).mono ?_; rintro _ _ ⟨rfl, rfl⟩))
        all_goals go_ret
        all_goals first | exact ⟨rfl, rfl⟩ | exact ⟨congrArg (fun z => Ending.returned (.int .i64 z)) (by omega), rfl⟩
      · rw [if_neg hl]
        have hl2 : s ≤ r := by omega
        go_enter Try.func52, Try.ntmps52
        go_wp2_with (first | (go_at_call 58; with_reducible refine (CV.out _).mono ?_; rintro _ _ ⟨rfl, rfl⟩) | (go_at_call 59; with_reducible refine (C1.out _).mono ?_; rintro _ _ ⟨rfl, rfl⟩))
        all_goals go_ret
        all_goals first | exact ⟨rfl, rfl⟩ | exact ⟨congrArg (fun z => Ending.returned (.int .i64 z)) (by omega), rfl⟩
    · rw [idxv_three h]
      by_cases h1 : i < 0
      · rw [if_pos h1]
        go_enter Try.func52, Try.ntmps52
        go_wp2_with (go_at_call 58; with_reducible refine (CV.out _).mono ?_; rintro _ _ ⟨rfl, rfl⟩)
        all_goals go_ret
        all_goals first | exact ⟨rfl, rfl⟩ | exact ⟨congrArg (fun z => Ending.returned (.int .i64 z)) (by omega), rfl⟩
      · rw [if_neg h1]
        have h0 : 0 ≤ i := by omega
        by_cases h2 : s ≤ i
        · rw [if_pos h2]
          go_enter Try.func52, Try.ntmps52
          go_wp2_with (go_at_call 58; with_reducible refine (CV.out _).mono ?_; rintro _ _ ⟨rfl, rfl⟩)
          all_goals go_ret
          all_goals first | exact ⟨rfl, rfl⟩ | exact ⟨congrArg (fun z => Ending.returned (.int .i64 z)) (by omega), rfl⟩
        · rw [if_neg h2]
          have h3 : i < s := by omega
          go_enter Try.func52, Try.ntmps52
          go_wp2_with (go_at_call 58; with_reducible refine (CV.out _).mono ?_; rintro _ _ ⟨rfl, rfl⟩)
          all_goals go_ret
          all_goals first | exact ⟨rfl, rfl⟩ | exact ⟨congrArg (fun z => Ending.returned (.int .i64 z)) (by omega), rfl⟩
    · rw [idxv_four h]
      by_cases h1 : 0 ≤ i ∧ i < s
      · rw [if_pos h1]
        go_enter Try.func52, Try.ntmps52
        go_wp2_with (go_at_call 58; with_reducible refine (CV.out _).mono ?_; rintro _ _ ⟨rfl, rfl⟩)
        all_goals go_ret
        all_goals first | exact ⟨rfl, rfl⟩ | exact ⟨congrArg (fun z => Ending.returned (.int .i64 z)) (by omega), rfl⟩
      · rw [if_neg h1]
        rcases (show i < 0 ∨ (0 ≤ i ∧ s ≤ i) by omega) with h2 | ⟨h2, h3⟩
        all_goals (clear h1; go_enter Try.func52, Try.ntmps52; go_wp2_with (go_at_call 58; with_reducible refine (CV.out _).mono ?_; rintro _ _ ⟨rfl, rfl⟩); go_ret; first | exact ⟨rfl, rfl⟩ | exact ⟨congrArg (fun z => Ending.returned (.int .i64 z)) (by omega), rfl⟩)
    · rw [idxv_none g]
      obtain ⟨g1, g2, g3, g4⟩ := g
      go_enter Try.func52, Try.ntmps52
      go_wp2_with (go_at_call 58; with_reducible refine (CV.out _).mono ?_; rintro _ _ ⟨rfl, rfl⟩)
      all_goals go_ret
      all_goals first | exact ⟨rfl, rfl⟩ | exact ⟨congrArg (fun z => Ending.returned (.int .i64 z)) (by omega), rfl⟩
  · rw [decide_eq_false h] at cv
    have CV := Lib.hid cv
    clear cv
    rw [idxv_size h]
    rcases (show s < 1 ∨ (1 ≤ s ∧ 64 < s) by omega) with h1 | ⟨h1, h2⟩
    all_goals (clear h; go_enter Try.func52, Try.ntmps52; go_wp2_with (go_at_call 58; with_reducible refine (CV.out _).mono ?_; rintro _ _ ⟨rfl, rfl⟩); go_ret; first | exact ⟨rfl, rfl⟩ | exact ⟨congrArg (fun z => Ending.returned (.int .i64 z)) (by omega), rfl⟩)

/-- Pair's two indices. -/
def PairGives (m i s : Int) (w : World) (e : Ending) (w' : World) : Prop := e = .returned (.tuple #[.int .i64 (idxv m i s), .int .i64 (idxv m (succv i) s)]) ∧ w = w'

end Go.Proofs.Ytoipmldbjciinaa
