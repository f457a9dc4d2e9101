/- The chapter's example and the walks of the six laws on addressing. -/
import Derived.Test.YtannnoncdioifaaA2
namespace Go.Proofs.Ytannnoncdioifaa
open Go.RowKit Go.Sort

set_option maxRecDepth 100000 in
theorem aexample_q (w : World) : Calls Try.prog 17 #[] w fun e w' => e = .returned (.bool true) ∧ w = w' := by
  have c1 := fun W => index_q 2 (-1) 4 W
  have c2 := fun W => index_q 2 4 4 W
  have c3 := fun W => index_q 1 (-1) 4 W
  rw [show idxv 2 (-1) 4 = 0 by decide] at c1
  rw [show idxv 2 4 4 = 3 by decide] at c2
  rw [show idxv 1 (-1) 4 = 3 by decide] at c3
  have C1 := Lib.hid c1
  have C2 := Lib.hid c2
  have C3 := Lib.hid c3
  clear c1 c2 c3
  go_enter Try.func17, Try.ntmps17
  go_wp2_with (first
    | (go_at_call 18; with_reducible refine (C1.out _).mono ?_; rintro _ _ ⟨rfl, rfl⟩)
    | (go_at_call 18; with_reducible refine (C2.out _).mono ?_; rintro _ _ ⟨rfl, rfl⟩)
    | (go_at_call 18; with_reducible refine (C3.out _).mono ?_; rintro _ _ ⟨rfl, rfl⟩))
  go_ret
  exact ⟨rfl, rfl⟩

set_option maxRecDepth 100000 in
theorem modes_walk (m i s : Int) (w : World) (hs : s ≤ 9223372036854775807) : Calls Try.prog 3 #[.int .i64 m, .int .i64 i, .int .i64 s] w fun e w' => e = .returned (.bool true) ∧ w = w' := by
  have c1 := fun W => valid_q m W
  have c2 := fun W => rvalid_q m W
  have c3 := fun W => text_q m W
  have c4 := fun W => rtext_q m W
  have c5 := fun W => mod_q i s W hs
  have c6 := fun W => rmod_q i s W hs
  have c7 := fun W => period_q m s W
  have c8 := fun W => rperiod_q m s W
  obtain ⟨x1, e1⟩ : ∃ x, avalid m = x := ⟨_, rfl⟩
  obtain ⟨x2, e2⟩ : ∃ x, atext m = x := ⟨_, rfl⟩
  obtain ⟨x3, e3⟩ : ∃ x, modv i s = x := ⟨_, rfl⟩
  obtain ⟨x4, e4⟩ : ∃ x, perv m s = x := ⟨_, rfl⟩
  rw [e1] at c1 c2
  rw [e2] at c3 c4
  rw [e3] at c5 c6
  rw [e4] at c7 c8
  have C1 := Lib.hid c1
  have C2 := Lib.hid c2
  have C3 := Lib.hid c3
  have C4 := Lib.hid c4
  have C5 := Lib.hid c5
  have C6 := Lib.hid c6
  have C7 := Lib.hid c7
  have C8 := Lib.hid c8
  clear c1 c2 c3 c4 c5 c6 c7 c8 e1 e2 e3 e4
  go_enter Try.func3, Try.ntmps3
  go_wp2_with (first
    | (go_at_call 9; with_reducible refine (C1.out _).mono ?_; rintro _ _ ⟨rfl, rfl⟩)
    | (go_at_call 10; with_reducible refine (C2.out _).mono ?_; rintro _ _ ⟨rfl, rfl⟩)
    | (go_at_call 11; with_reducible refine (C3.out _).mono ?_; rintro _ _ ⟨rfl, rfl⟩)
    | (go_at_call 12; with_reducible refine (C4.out _).mono ?_; rintro _ _ ⟨rfl, rfl⟩)
    | (go_at_call 13; with_reducible refine (C5.out _).mono ?_; rintro _ _ ⟨rfl, rfl⟩)
    | (go_at_call 14; with_reducible refine (C6.out _).mono ?_; rintro _ _ ⟨rfl, rfl⟩)
    | (go_at_call 15; with_reducible refine (C7.out _).mono ?_; rintro _ _ ⟨rfl, rfl⟩)
    | (go_at_call 16; with_reducible refine (C8.out _).mono ?_; rintro _ _ ⟨rfl, rfl⟩)
    | (go_at_call 17; with_reducible refine (aexample_q _).mono ?_; rintro _ _ ⟨rfl, rfl⟩))
  go_ret
  exact ⟨rfl, rfl⟩

set_option maxRecDepth 100000 in
theorem index_walk (m i s : Int) (w : World) : Calls Try.prog 4 #[.int .i64 m, .int .i64 i, .int .i64 s] w fun e w' => e = .returned (.bool true) ∧ w = w' := by
  have c1 := fun W => index_q m i s W
  have c2 := fun W => rindex_q m i s W
  obtain ⟨x1, e1⟩ : ∃ x, idxv m i s = x := ⟨_, rfl⟩
  rw [e1] at c1 c2
  have C1 := Lib.hid c1
  have C2 := Lib.hid c2
  clear c1 c2 e1
  go_enter Try.func4, Try.ntmps4
  go_wp2_with (first
    | (go_at_call 18; with_reducible refine (C1.out _).mono ?_; rintro _ _ ⟨rfl, rfl⟩)
    | (go_at_call 19; with_reducible refine (C2.out _).mono ?_; rintro _ _ ⟨rfl, rfl⟩)
    | (go_at_call 17; with_reducible refine (aexample_q _).mono ?_; rintro _ _ ⟨rfl, rfl⟩))
  go_ret
  exact ⟨rfl, rfl⟩

set_option maxRecDepth 100000 in
theorem pairs_walk (m i s : Int) (w : World) (h0 : -9223372036854775808 ≤ i) (h1 : i ≤ 9223372036854775807) : Calls Try.prog 5 #[.int .i64 m, .int .i64 i, .int .i64 s] w fun e w' => e = .returned (.bool true) ∧ w = w' := by
  have c1 := fun W => pair_q m i s W h0 h1
  have c2 := fun W => rpair_q m i s W h0 h1
  unfold PairGives at c1
  unfold rPairGives at c2
  obtain ⟨x1, e1⟩ : ∃ x, idxv m i s = x := ⟨_, rfl⟩
  obtain ⟨x2, e2⟩ : ∃ x, idxv m (succv i) s = x := ⟨_, rfl⟩
  rw [e1, e2] at c1 c2
  have C1 := Lib.hid c1
  have C2 := Lib.hid c2
  clear c1 c2 e1 e2
  go_enter Try.func5, Try.ntmps5
  go_wp2_with (first
    | (go_at_call 20; with_reducible refine (C1.out _).mono ?_; rintro _ _ ⟨rfl, rfl⟩)
    | (go_at_call 21; with_reducible refine (C2.out _).mono ?_; rintro _ _ ⟨rfl, rfl⟩)
    | (go_at_call 17; with_reducible refine (aexample_q _).mono ?_; rintro _ _ ⟨rfl, rfl⟩))
  go_ret
  exact ⟨rfl, rfl⟩

set_option maxRecDepth 100000 in
theorem inside_walk (m i s : Int) (w : World) : Calls Try.prog 6 #[.int .i64 m, .int .i64 i, .int .i64 s] w fun e w' => e = .returned (.bool true) ∧ w = w' := by
  have c1 := fun W => index_q m i s W
  have c2 := fun W => valid_q m W
  obtain ⟨x, e1⟩ : ∃ x, idxv m i s = x := ⟨_, rfl⟩
  rw [e1] at c1
  have C1 := Lib.hid c1
  clear c1
  have E1 := Lib.hid e1
  clear e1
  by_cases hs : 1 ≤ s ∧ s ≤ 64
  · by_cases hm : 1 ≤ m ∧ m ≤ 4
    · rw [show avalid m = true from decide_eq_true hm] at c2
      have C2 := Lib.hid c2
      clear c2
      by_cases hi : 0 ≤ i ∧ i < s
      · obtain rfl : x = i := by rw [← E1.out, inside_in hs hm hi]
        go_enter Try.func6, Try.ntmps6
        go_wp2_with (first
          | (go_at_call 18; with_reducible refine (C1.out _).mono ?_; rintro _ _ ⟨rfl, rfl⟩)
          | (go_at_call 9; with_reducible refine (C2.out _).mono ?_; rintro _ _ ⟨rfl, rfl⟩)
          | (go_at_call 17; with_reducible refine (aexample_q _).mono ?_; rintro _ _ ⟨rfl, rfl⟩))
        go_ret
        exact ⟨rfl, rfl⟩
      · by_cases h4 : m = 4
        · subst h4
          obtain rfl : x = -1 := by rw [← E1.out, inside_border hs hi]
          rcases (show i < 0 ∨ (0 ≤ i ∧ s ≤ i) by omega) with h2 | ⟨h2, h3⟩
          all_goals (clear hi; go_enter Try.func6, Try.ntmps6; go_wp2_with (first
            | (go_at_call 18; with_reducible refine (C1.out _).mono ?_; rintro _ _ ⟨rfl, rfl⟩)
            | (go_at_call 9; with_reducible refine (C2.out _).mono ?_; rintro _ _ ⟨rfl, rfl⟩)
            | (go_at_call 17; with_reducible refine (aexample_q _).mono ?_; rintro _ _ ⟨rfl, rfl⟩)); go_ret; exact ⟨rfl, rfl⟩)
        · have hx := inside_out (i := i) hs (show 1 ≤ m ∧ m ≤ 3 by omega)
          rw [E1.out] at hx
          obtain ⟨hx0, hx1⟩ := hx
          rcases (show i < 0 ∨ (0 ≤ i ∧ s ≤ i) by omega) with h2 | ⟨h2, h3⟩
          all_goals (clear hi; go_enter Try.func6, Try.ntmps6; go_wp2_with (first
            | (go_at_call 18; with_reducible refine (C1.out _).mono ?_; rintro _ _ ⟨rfl, rfl⟩)
            | (go_at_call 9; with_reducible refine (C2.out _).mono ?_; rintro _ _ ⟨rfl, rfl⟩)
            | (go_at_call 17; with_reducible refine (aexample_q _).mono ?_; rintro _ _ ⟨rfl, rfl⟩)); go_ret; exact ⟨rfl, rfl⟩)
    · rw [show avalid m = false from decide_eq_false hm] at c2
      have C2 := Lib.hid c2
      clear c2
      obtain rfl : x = -1 := by rw [← E1.out, idxv_none (by omega)]
      clear hm
      go_enter Try.func6, Try.ntmps6
      go_wp2_with (first
        | (go_at_call 18; with_reducible refine (C1.out _).mono ?_; rintro _ _ ⟨rfl, rfl⟩)
        | (go_at_call 9; with_reducible refine (C2.out _).mono ?_; rintro _ _ ⟨rfl, rfl⟩)
        | (go_at_call 17; with_reducible refine (aexample_q _).mono ?_; rintro _ _ ⟨rfl, rfl⟩))
      go_ret
      exact ⟨rfl, rfl⟩
  · obtain rfl : x = -1 := by rw [← E1.out, idxv_size hs]
    rcases (show s < 1 ∨ (1 ≤ s ∧ 64 < s) by omega) with h1 | ⟨h1, h2⟩
    all_goals (clear hs c2; go_enter Try.func6, Try.ntmps6; go_wp2_with (first
      | (go_at_call 18; with_reducible refine (C1.out _).mono ?_; rintro _ _ ⟨rfl, rfl⟩)
      | (go_at_call 17; with_reducible refine (aexample_q _).mono ?_; rintro _ _ ⟨rfl, rfl⟩)); go_ret; exact ⟨rfl, rfl⟩)

set_option maxRecDepth 100000 in
theorem period_walk (m i s : Int) (w : World) : Calls Try.prog 7 #[.int .i64 m, .int .i64 i, .int .i64 s] w fun e w' => e = .returned (.bool true) ∧ w = w' := by
  have c1 := fun W => period_q m s W
  have c2 := fun W => index_q m i s W
  have c3 := fun W => index_q m (i + perv m s) s W
  have hp : 0 ≤ perv m s ∧ perv m s ≤ 128 := by
    unfold perv
    repeat' split
    all_goals omega
  rw [← idxv_period] at c3
  obtain ⟨p, e1⟩ : ∃ x, perv m s = x := ⟨_, rfl⟩
  obtain ⟨x, e2⟩ : ∃ x, idxv m i s = x := ⟨_, rfl⟩
  rw [e1] at c1 c3 hp
  rw [e2] at c2 c3
  obtain ⟨p0, p1⟩ := hp
  have C1 := Lib.hid c1
  have C2 := Lib.hid c2
  have C3 := Lib.hid c3
  clear c1 c2 c3 e1 e2
  rcases (show i < -1000000 ∨ (-1000000 ≤ i ∧ 1000000 < i) ∨ (-1000000 ≤ i ∧ i ≤ 1000000) by omega) with h1 | ⟨h1, h2⟩ | ⟨h1, h2⟩
  all_goals (go_enter Try.func7, Try.ntmps7; go_wp2_with (first
      | (go_at_call 15; with_reducible refine (C1.out _).mono ?_; rintro _ _ ⟨rfl, rfl⟩)
      | (go_at_call 18; with_reducible refine (C2.out _).mono ?_; rintro _ _ ⟨rfl, rfl⟩)
      | (go_at_call 18; with_reducible refine (C3.out _).mono ?_; rintro _ _ ⟨rfl, rfl⟩)
      | (go_at_call 17; with_reducible refine (aexample_q _).mono ?_; rintro _ _ ⟨rfl, rfl⟩)); go_ret; exact ⟨rfl, rfl⟩)

set_option maxRecDepth 100000 in
theorem mirror_walk (i s : Int) (w : World) : Calls Try.prog 8 #[.int .i64 i, .int .i64 s] w fun e w' => e = .returned (.bool true) ∧ w = w' := by
  by_cases hs : 1 ≤ s ∧ s ≤ 64
  · rcases (show i < -1000000 ∨ (-1000000 ≤ i ∧ 1000000 < i) ∨ (-1000000 ≤ i ∧ i ≤ 1000000) by omega) with h1 | ⟨h1, h2⟩ | ⟨h1, h2⟩
    · go_enter Try.func8, Try.ntmps8
      go_wp2_with (go_at_call 17; with_reducible refine (aexample_q _).mono ?_; rintro _ _ ⟨rfl, rfl⟩)
      go_ret
      exact ⟨rfl, rfl⟩
    · go_enter Try.func8, Try.ntmps8
      go_wp2_with (go_at_call 17; with_reducible refine (aexample_q _).mono ?_; rintro _ _ ⟨rfl, rfl⟩)
      go_ret
      exact ⟨rfl, rfl⟩
    · have c1 := fun W => index_q 2 i s W
      have c2 := fun W => index_q 2 (i + 1) s W
      have c3 := fun W => index_q 2 (-1 - i) s W
      have r1 := inside_out (i := i) hs (show (1 : Int) ≤ 2 ∧ (2 : Int) ≤ 3 by omega)
      have r2 := inside_out (i := i + 1) hs (show (1 : Int) ≤ 2 ∧ (2 : Int) ≤ 3 by omega)
      have r3 := mirror_near (i := i) hs
      rw [← mirror_sym hs] at c3
      obtain ⟨x, e1⟩ : ∃ x, idxv 2 i s = x := ⟨_, rfl⟩
      obtain ⟨y, e2⟩ : ∃ x, idxv 2 (i + 1) s = x := ⟨_, rfl⟩
      rw [e1] at c1 c3 r1 r3
      rw [e2] at c2 r2 r3
      have C1 := Lib.hid c1
      have C2 := Lib.hid c2
      have C3 := Lib.hid c3
      obtain ⟨r4, r5⟩ := r1
      obtain ⟨r6, r7⟩ := r2
      obtain ⟨r8, r9⟩ := r3
      clear c1 c2 c3 e1 e2
      rcases (show x ≤ y ∨ y ≤ x by omega) with hxy | hxy
      all_goals (go_enter Try.func8, Try.ntmps8; go_wp2_with (first
        | (go_at_call 18; with_reducible refine (C1.out _).mono ?_; rintro _ _ ⟨rfl, rfl⟩)
        | (go_at_call 18; with_reducible refine (C2.out _).mono ?_; rintro _ _ ⟨rfl, rfl⟩)
        | (go_at_call 18; with_reducible refine (C3.out _).mono ?_; rintro _ _ ⟨rfl, rfl⟩)
        | (go_at_call 17; with_reducible refine (aexample_q _).mono ?_; rintro _ _ ⟨rfl, rfl⟩)))
      all_goals go_ret
      all_goals exact ⟨rfl, rfl⟩
  · rcases (show s < 1 ∨ (1 ≤ s ∧ 64 < s) by omega) with h1 | ⟨h1, h2⟩
    all_goals (clear hs; go_enter Try.func8, Try.ntmps8; go_wp2_with (go_at_call 17; with_reducible refine (aexample_q _).mono ?_; rintro _ _ ⟨rfl, rfl⟩); go_ret; exact ⟨rfl, rfl⟩)

end Go.Proofs.Ytannnoncdioifaa
