/- What the reference of addressing returns. -/
import Derived.Test.YtannnoncdioifaaAMath
import Derived.WalkKit
import Derived.Outline
import Derived.WalkSpells
import Derived.Test.YtannnoncdioifaaChecked
namespace Go.Proofs.Ytannnoncdioifaa
open Go.RowKit Go.Sort

set_option maxRecDepth 100000 in
theorem rvalid_q (m : Int) (w : World) : Calls Try.prog 10 #[.int .i64 m] w fun e w' => e = .returned (.bool (avalid m)) ∧ w = w' := by
  by_cases h : 1 ≤ m ∧ m ≤ 4
  · have e : avalid m = true := decide_eq_true h
    rw [e]
    rcases (show m = 1 ∨ m = 2 ∨ m = 3 ∨ m = 4 by omega) with rfl | rfl | rfl | rfl
    all_goals (go_enter Try.func10, Try.ntmps10; go_wp2; go_ret; exact ⟨rfl, rfl⟩)
  · have e : avalid m = false := decide_eq_false h
    rw [e]
    rcases (show m < 1 ∨ 4 < m by omega) with h | h
    all_goals (go_enter Try.func10, Try.ntmps10; go_wp2; go_ret; exact ⟨congrArg (fun b => Ending.returned (.bool b)) (by simp <;> omega), rfl⟩)

set_option maxRecDepth 100000 in
theorem rtext_q (m : Int) (w : World) : Calls Try.prog 12 #[.int .i64 m] w fun e w' => e = .returned (.string (atext m)) ∧ w = w' := by
  by_cases h : 1 ≤ m ∧ m ≤ 4
  · rcases (show m = 1 ∨ m = 2 ∨ m = 3 ∨ m = 4 by omega) with rfl | rfl | rfl | rfl
    all_goals (go_enter Try.func12, Try.ntmps12; go_wp2; go_ret; exact ⟨rfl, rfl⟩)
  · have e : atext m = ⟨#[63]⟩ := by unfold atext; rw [if_neg (by omega), if_neg (by omega), if_neg (by omega), if_neg (by omega)]
    rw [e]
    have h1 : m ≠ 1 := by omega
    have h2 : m ≠ 2 := by omega
    have h3 : m ≠ 3 := by omega
    have h4 : m ≠ 4 := by omega
    clear e h
    go_enter Try.func12, Try.ntmps12
    go_wp2
    go_ret
    exact ⟨rfl, rfl⟩

set_option maxRecDepth 100000 in
theorem rmod_q (i n : Int) (w : World) (h3 : n ≤ 9223372036854775807) : Calls Try.prog 14 #[.int .i64 i, .int .i64 n] w fun e w' => e = .returned (.int .i64 (modv i n)) ∧ w = w' := by
  by_cases hn : n < 1
  · have e : modv i n = 0 := by unfold modv; rw [if_pos hn]
    rw [e]
    clear e
    go_enter Try.func14, Try.ntmps14
    go_wp2
    go_ret
    exact ⟨rfl, rfl⟩
  · obtain ⟨t, ht, t1, t2, t3, t4⟩ := tmod_steps i n (by omega)
    have e : modv i n = i % n := by unfold modv; rw [if_neg hn]
    rw [e]
    have hn1 : 1 ≤ n := by omega
    clear e hn
    by_cases h : t < 0
    · rw [t3 h]
      clear t3 t4
      go_enter Try.func14, Try.ntmps14
      go_wp2
      go_ret
      exact ⟨rfl, rfl⟩
    · have h0 : 0 ≤ t := by omega
      rw [t4 h0]
      clear t3 t4
      go_enter Try.func14, Try.ntmps14
      go_wp2
      go_ret
      exact ⟨rfl, rfl⟩

set_option maxRecDepth 100000 in
theorem rperiod_q (m s : Int) (w : World) : Calls Try.prog 16 #[.int .i64 m, .int .i64 s] w fun e w' => e = .returned (.int .i64 (perv m s)) ∧ w = w' := by
  by_cases h : 1 ≤ s ∧ s ≤ 64
  · rcases (show m = 1 ∨ m = 2 ∨ (m ≠ 1 ∧ m ≠ 2) by omega) with rfl | rfl | ⟨g1, g2⟩
    · have e : perv 1 s = s := by unfold perv; rw [if_pos h, if_pos rfl]
      rw [e]
      clear e
      go_enter Try.func16, Try.ntmps16
      go_wp2
      go_ret
      exact ⟨rfl, rfl⟩
    · have e : perv 2 s = 2 * s := by unfold perv; rw [if_pos h, if_neg (by omega), if_pos rfl]
      rw [e]
      clear e
      go_enter Try.func16, Try.ntmps16
      go_wp2
      go_ret
      exact ⟨rfl, rfl⟩
    · have e : perv m s = 0 := by unfold perv; rw [if_pos h, if_neg g1, if_neg g2]
      rw [e]
      clear e
      go_enter Try.func16, Try.ntmps16
      go_wp2
      go_ret
      exact ⟨rfl, rfl⟩
  · have e : perv m s = 0 := by unfold perv; rw [if_neg h]
    rw [e]
    clear e
    rcases (show s < 1 ∨ (1 ≤ s ∧ 64 < s) by omega) with h1 | ⟨h1, h2⟩
    all_goals (clear h; go_enter Try.func16, Try.ntmps16; go_wp2; go_ret; exact ⟨rfl, rfl⟩)

set_option maxRecDepth 100000 in
theorem rindex_q (m i s : Int) (w : World) : Calls Try.prog 19 #[.int .i64 m, .int .i64 i, .int .i64 s] w fun e w' => e = .returned (.int .i64 (idxv m i s)) ∧ w = w' := by
  by_cases h : 1 ≤ s ∧ s ≤ 64
  · rcases (show m = 1 ∨ m = 2 ∨ m = 3 ∨ m = 4 ∨ (m ≠ 1 ∧ m ≠ 2 ∧ m ≠ 3 ∧ m ≠ 4) by omega) with rfl | rfl | rfl | rfl | g
    · have c1 := fun W => rmod_q i s W (by omega)
      have e : modv i s = i % s := by unfold modv; rw [if_neg (by omega)]
      rw [e] at c1
      rw [idxv_one h]
      obtain ⟨r, hr⟩ : ∃ r, i % s = r := ⟨_, rfl⟩
      rw [hr] at c1 ⊢
      have C1 := Lib.hid c1
      clear c1 hr e
      go_enter Try.func19, Try.ntmps19
      go_wp2_with (go_at_call 14; with_reducible refine (C1.out _).mono ?_; rintro _ _ ⟨rfl, rfl⟩)
      go_ret
      exact ⟨rfl, rfl⟩
    · have c1 := fun W => rmod_q i (2 * s) W (by omega)
      have e : modv i (2 * s) = i % (2 * s) := by unfold modv; rw [if_neg (by omega)]
      have hr0 := modv_rng i (2 * s) (by omega)
      rw [e] at c1
      rw [idxv_two h]
      obtain ⟨r, hr⟩ : ∃ r, i % (2 * s) = r := ⟨_, rfl⟩
      rw [hr] at c1 hr0 ⊢
      have C1 := Lib.hid c1
      clear c1 hr e
      by_cases hl : r < s
      · rw [if_pos hl]
        go_enter Try.func19, Try.ntmps19
        go_wp2_with (go_at_call 14; with_reducible refine (C1.out _).mono ?_; rintro _ _ ⟨rfl, rfl⟩)
        go_ret
        exact ⟨rfl, rfl⟩
      · rw [if_neg hl]
        have hl2 : s ≤ r := by omega
        go_enter Try.func19, Try.ntmps19
        go_wp2_with (go_at_call 14; with_reducible refine (C1.out _).mono ?_; rintro _ _ ⟨rfl, rfl⟩)
        go_ret
        exact ⟨rfl, rfl⟩
    · rw [idxv_three h]
      by_cases h1 : i < 0
      · rw [if_pos h1]
        go_enter Try.func19, Try.ntmps19
        go_wp2
        all_goals go_ret
        all_goals exact ⟨rfl, rfl⟩
      · rw [if_neg h1]
        have h0 : 0 ≤ i := by omega
        by_cases h2 : s ≤ i
        · rw [if_pos h2]
          go_enter Try.func19, Try.ntmps19
          go_wp2
          all_goals go_ret
          all_goals exact ⟨rfl, rfl⟩
        · rw [if_neg h2]
          have h3 : i < s := by omega
          go_enter Try.func19, Try.ntmps19
          go_wp2
          all_goals go_ret
          all_goals exact ⟨rfl, rfl⟩
    · rw [idxv_four h]
      by_cases h1 : 0 ≤ i ∧ i < s
      · rw [if_pos h1]
        go_enter Try.func19, Try.ntmps19
        go_wp2
        go_ret
        exact ⟨rfl, rfl⟩
      · rw [if_neg h1]
        rcases (show i < 0 ∨ (0 ≤ i ∧ s ≤ i) by omega) with h2 | ⟨h2, h3⟩
        all_goals (clear h1; go_enter Try.func19, Try.ntmps19; go_wp2; go_ret; exact ⟨rfl, rfl⟩)
    · rw [idxv_none g]
      obtain ⟨g1, g2, g3, g4⟩ := g
      go_enter Try.func19, Try.ntmps19
      go_wp2
      go_ret
      exact ⟨rfl, rfl⟩
  · rw [idxv_size h]
    rcases (show s < 1 ∨ (1 ≤ s ∧ 64 < s) by omega) with h1 | ⟨h1, h2⟩
    all_goals (clear h; go_enter Try.func19, Try.ntmps19; go_wp2; go_ret; exact ⟨rfl, rfl⟩)

/-- Pair's two indices. -/
def rPairGives (m i s : Int) (w : World) (e : Ending) (w' : World) : Prop := e = .returned (.tuple #[.int .i64 (idxv m i s), .int .i64 (idxv m (succv i) s)]) ∧ w = w'

set_option maxRecDepth 100000 in
theorem rpair_q (m i s : Int) (w : World) (hi0 : -9223372036854775808 ≤ i) (hi : i ≤ 9223372036854775807) : Calls Try.prog 21 #[.int .i64 m, .int .i64 i, .int .i64 s] w (rPairGives m i s w) := by
  have c1 := fun W => rindex_q m i s W
  have c2 := fun W => rindex_q m (succv i) s W
  by_cases h : i < 9223372036854775807
  · have e : succv i = i + 1 := by unfold succv; rw [if_pos h]
    unfold rPairGives
    rw [e] at c2 ⊢
    obtain ⟨x, hx⟩ : ∃ x, idxv m i s = x := ⟨_, rfl⟩
    obtain ⟨y, hy⟩ : ∃ y, idxv m (i + 1) s = y := ⟨_, rfl⟩
    rw [hx] at c1 ⊢
    rw [hy] at c2 ⊢
    have C1 := Lib.hid c1
    have C2 := Lib.hid c2
    clear c1 c2 hx hy e
    go_enter Try.func21, Try.ntmps21
    go_wp2_with (first
      | (go_at_call 19; with_reducible refine (C1.out _).mono ?_; rintro _ _ ⟨rfl, rfl⟩)
      | (go_at_call 19; with_reducible refine (C2.out _).mono ?_; rintro _ _ ⟨rfl, rfl⟩))
    go_ret2
    exact ⟨rfl, rfl⟩
  · obtain rfl : i = 9223372036854775807 := by omega
    have e : succv 9223372036854775807 = 9223372036854775807 := by decide
    unfold rPairGives
    rw [e] at c2 ⊢
    obtain ⟨x, hx⟩ : ∃ x, idxv m 9223372036854775807 s = x := ⟨_, rfl⟩
    rw [hx] at c1 ⊢
    have C1 := Lib.hid c1
    clear c1 c2 hx e
    go_enter Try.func21, Try.ntmps21
    go_wp2_with (go_at_call 19; with_reducible refine (C1.out _).mono ?_; rintro _ _ ⟨rfl, rfl⟩)
    go_ret2
    exact ⟨rfl, rfl⟩

end Go.Proofs.Ytannnoncdioifaa
