/- The walks of the six laws of stage 38. -/
import Derived.Test.YtelmffejljegfaaDP2
namespace Go.Proofs.Ytelmffejljegfaa
set_option linter.unusedSimpArgs false
open Go.RowKit Go.Sort
set_option linter.unusedVariables false

set_option maxRecDepth 100000 in
theorem formats_walk (f z b : Int) (w : World) : Calls Try.prog 3 #[.int .i64 f, .int .i64 z, .int .i64 b] w fun e w' => e = .returned (.bool true) ∧ Below w.heap.size w w' := by
  have BB := Below.refl w.heap.size w
  go_enter Try.func3, Try.ntmps3
  go_wp2_with (first | (go_at_call 9; refine (bits_b f _).mono ?_; rintro _ _ ⟨rfl, B⟩; replace BB := bon BB B) | (go_at_call 10; refine (rbits_b f _).mono ?_; rintro _ _ ⟨rfl, B⟩; replace BB := bon BB B) | (go_at_call 11; refine (max_b f _).mono ?_; rintro _ _ ⟨rfl, B⟩; replace BB := bon BB B) | (go_at_call 12; refine (rmax_b f _).mono ?_; rintro _ _ ⟨rfl, B⟩; replace BB := bon BB B) | (go_at_call 13; refine (quant_b f z _).mono ?_; rintro _ _ ⟨rfl, B⟩; replace BB := bon BB B) | (go_at_call 14; refine (rquant_b f z _).mono ?_; rintro _ _ ⟨rfl, B⟩; replace BB := bon BB B) | (go_at_call 15; refine (bias_b z b _).mono ?_; rintro _ _ ⟨rfl, B⟩; replace BB := bon BB B) | (go_at_call 16; refine (rbias_b z b _).mono ?_; rintro _ _ ⟨rfl, B⟩; replace BB := bon BB B) | (go_at_call 17; refine (example38_b _).mono ?_; rintro _ _ ⟨rfl, B⟩; replace BB := bon BB B))
  go_ret
  exact ⟨rfl, BB⟩

set_option maxRecDepth 100000 in
set_option maxHeartbeats 1000000 in
theorem states_walk (t wr : Bool) (c bi a b : Int) (w : World) : Calls Try.prog 4 #[.agg #[.bool t, .bool wr, .int .i64 c, .int .i64 bi], .int .i64 a, .int .i64 b] w fun e w' => e = .returned (.bool true) ∧ Below w.heap.size w w' := by
  obtain ⟨c0, c1, c2, c3, BB⟩ := box4 w (.bool t) (.bool wr) (.int .i64 c) (.int .i64 bi) 30
  go_enter Try.func4, Try.ntmps4
  go_wp2_with fail
  have k_c0 := cell_regrown c0
  have k_c1 := cell_regrown c1
  have k_c2 := cell_regrown c2
  have k_c3 := cell_regrown c3
  refine wp_region_quiet_below (by kernel_rfl) (by kernel_rfl) ?_
  repeat (first | go_big_quiet_step ((first | (go_at_call 18; exact Calls.regrown_of (compare_b c a b _)) | (go_at_call 19; exact Calls.regrown_of (rcompare_b c a b _)) | (go_at_call 20; exact Calls.regrown_of (vcompare_b c _)) | (go_at_call 21; exact Calls.regrown_of (rvcompare_b c _)) | (go_at_call 22; exact Calls.regrown_of (vstate_b t wr c bi _)) | (go_at_call 23; exact Calls.regrown_of (rvstate_b t wr c bi _)) | (go_at_call 17; exact Calls.regrown_of (example38_b _)))) | quiet_step ((first | (go_at_call 18; exact Calls.regrown_of (compare_b c a b _)) | (go_at_call 19; exact Calls.regrown_of (rcompare_b c a b _)) | (go_at_call 20; exact Calls.regrown_of (vcompare_b c _)) | (go_at_call 21; exact Calls.regrown_of (rvcompare_b c _)) | (go_at_call 22; exact Calls.regrown_of (vstate_b t wr c bi _)) | (go_at_call 23; exact Calls.regrown_of (rvstate_b t wr c bi _)) | (go_at_call 17; exact Calls.regrown_of (example38_b _)))))
  refine wpQuiet_nil ?_
  intro W hw'
  have B := below_regrown' hw'
  clear hw' k_c0 k_c1 k_c2 k_c3
  replace BB := bon BB B
  replace c0 := cell_below B c0
  replace c1 := cell_below B c1
  replace c2 := cell_below B c2
  replace c3 := cell_below B c3
  go_wp2
  go_ret
  exact ⟨rfl, BB⟩

set_option maxRecDepth 100000 in
set_option maxHeartbeats 1000000 in
theorem tests_walk (t wr : Bool) (c bi f z old : Int) (w : World) : Calls Try.prog 5 #[.agg #[.bool t, .bool wr, .int .i64 c, .int .i64 bi], .int .i64 f, .int .i64 z, .int .i64 old] w fun e w' => e = .returned (.bool true) ∧ Below w.heap.size w w' := by
  obtain ⟨c0, c1, c2, c3, BB⟩ := box4 w (.bool t) (.bool wr) (.int .i64 c) (.int .i64 bi) 30
  have C1 := Lib.hid (fun W => test_b t wr c bi f z old W)
  have C2 := Lib.hid (fun W => rtest_b t wr c bi f z old W)
  obtain ⟨⟨v, n⟩, hv⟩ : ∃ v, tst t wr c bi f z old = v := ⟨_, rfl⟩
  rw [hv] at C1 C2
  clear hv
  go_enter Try.func5, Try.ntmps5
  go_wp2_with (first | (go_at_call 24; refine (C1.out _).mono ?_; rintro _ _ ⟨rfl, B⟩; replace BB := bon BB B; replace c0 := cell_below B c0; replace c1 := cell_below B c1; replace c2 := cell_below B c2; replace c3 := cell_below B c3) | (go_at_call 25; refine (C2.out _).mono ?_; rintro _ _ ⟨rfl, B⟩; replace BB := bon BB B; replace c0 := cell_below B c0; replace c1 := cell_below B c1; replace c2 := cell_below B c2; replace c3 := cell_below B c3) | (go_at_call 17; refine (example38_b _).mono ?_; rintro _ _ ⟨rfl, B⟩; replace BB := bon BB B; replace c0 := cell_below B c0; replace c1 := cell_below B c1; replace c2 := cell_below B c2; replace c3 := cell_below B c3))
  go_ret
  exact ⟨rfl, BB⟩

def onev (b : Bool) : Int := if b = true then 1 else 0

theorem one_b (b : Bool) (w : World) : Calls Try.prog 26 #[.bool b] w fun e w' => e = .returned (.int .i64 (onev b)) ∧ Below w.heap.size w w' := by
  cases b
  all_goals
    go_enter Try.func26, Try.ntmps26
    go_wp2
    go_ret
    exact ⟨rfl, Below.refl _ _⟩

theorem one_t (w : World) : Calls Try.prog 26 #[.bool true] w fun e w' => e = .returned (.int .i64 1) ∧ Below w.heap.size w w' := one_b true w

theorem one_f (w : World) : Calls Try.prog 26 #[.bool false] w fun e w' => e = .returned (.int .i64 0) ∧ Below w.heap.size w w' := one_b false w

theorem cmp_at (c a b : Int) (v : Bool) (h : cmpv c a b = v) (w : World) : Calls Try.prog 18 #[.int .i64 c, .int .i64 a, .int .i64 b] w fun e w' => e = .returned (.bool v) ∧ Below w.heap.size w w' := h ▸ compare_b c a b w

set_option maxRecDepth 100000 in
set_option maxHeartbeats 1000000 in
theorem dcompare_case (a b : Int) (l e g : Bool) (h2 : Hid (cmpv 2 a b = l)) (h3 : Hid (cmpv 3 a b = e)) (h5 : Hid (cmpv 5 a b = g)) (h5' : Hid (cmpv 5 b a = l)) (h3' : Hid (cmpv 3 b a = e)) (h7 : Hid (cmpv 7 a b = !l)) (h6 : Hid (cmpv 6 a b = !e)) (h4 : Hid (cmpv 4 a b = !g))
    (hs : onev l + onev e + onev g = 1) (w : World) : Calls Try.prog 6 #[.int .i64 a, .int .i64 b] w fun e w' => e = .returned (.bool true) ∧ Below w.heap.size w w' := by
  have BB := Below.refl w.heap.size w
  have C2 := Lib.hid (fun W => cmp_at 2 a b l h2.out W)
  have C3 := Lib.hid (fun W => cmp_at 3 a b e h3.out W)
  have C5 := Lib.hid (fun W => cmp_at 5 a b g h5.out W)
  have D5 := Lib.hid (fun W => cmp_at 5 b a l h5'.out W)
  have D3 := Lib.hid (fun W => cmp_at 3 b a e h3'.out W)
  have C7 := Lib.hid (fun W => cmp_at 7 a b _ h7.out W)
  have C6 := Lib.hid (fun W => cmp_at 6 a b _ h6.out W)
  have C4 := Lib.hid (fun W => cmp_at 4 a b _ h4.out W)
  have C8 := Lib.hid (fun W => cmp_at 8 a b true rfl W)
  have C1 := Lib.hid (fun W => cmp_at 1 a b false rfl W)
  clear h2 h3 h5 h5' h3' h7 h6 h4
  revert hs
  cases l <;> cases e <;> cases g <;> intro hs
  all_goals first
    | (exfalso; revert hs; decide)
    | (clear hs
       go_enter Try.func6, Try.ntmps6
       go_wp2_with (first
         | (go_at_call 18; first
             | ((with_reducible refine (C2.out _).mono ?_); rintro _ _ ⟨rfl, B⟩; replace BB := bon BB B; clear B)
             | ((with_reducible refine (C3.out _).mono ?_); rintro _ _ ⟨rfl, B⟩; replace BB := bon BB B; clear B)
             | ((with_reducible refine (C5.out _).mono ?_); rintro _ _ ⟨rfl, B⟩; replace BB := bon BB B; clear B)
             | ((with_reducible refine (D5.out _).mono ?_); rintro _ _ ⟨rfl, B⟩; replace BB := bon BB B; clear B)
             | ((with_reducible refine (D3.out _).mono ?_); rintro _ _ ⟨rfl, B⟩; replace BB := bon BB B; clear B)
             | ((with_reducible refine (C7.out _).mono ?_); rintro _ _ ⟨rfl, B⟩; replace BB := bon BB B; clear B)
             | ((with_reducible refine (C6.out _).mono ?_); rintro _ _ ⟨rfl, B⟩; replace BB := bon BB B; clear B)
             | ((with_reducible refine (C4.out _).mono ?_); rintro _ _ ⟨rfl, B⟩; replace BB := bon BB B; clear B)
             | ((with_reducible refine (C8.out _).mono ?_); rintro _ _ ⟨rfl, B⟩; replace BB := bon BB B; clear B)
             | ((with_reducible refine (C1.out _).mono ?_); rintro _ _ ⟨rfl, B⟩; replace BB := bon BB B; clear B))
         | (go_at_call 26; first
             | ((with_reducible refine (one_t _).mono ?_); rintro _ _ ⟨rfl, B⟩; replace BB := bon BB B; clear B)
             | ((with_reducible refine (one_f _).mono ?_); rintro _ _ ⟨rfl, B⟩; replace BB := bon BB B; clear B))
         | (first | (go_at_call 17; refine (example38_b _).mono ?_; rintro _ _ ⟨rfl, B⟩; replace BB := bon BB B)))
       go_ret
       exact ⟨rfl, BB⟩)

theorem dcompare_walk (a b : Int) (w : World) : Calls Try.prog 6 #[.int .i64 a, .int .i64 b] w fun e w' => e = .returned (.bool true) ∧ Below w.heap.size w w' := by
  refine dcompare_case a b (decide (a < b)) (decide (a = b)) (decide (b < a)) (Lib.hid ?_) (Lib.hid ?_) (Lib.hid ?_) (Lib.hid ?_) (Lib.hid ?_) (Lib.hid ?_) (Lib.hid ?_) (Lib.hid ?_) ?_ w
  all_goals first
    | (rcases (show a < b ∨ a = b ∨ b < a by omega) with h | rfl | h
       all_goals (simp [cmpv]; done))
    | (rcases (show a < b ∨ a = b ∨ b < a by omega) with h | rfl | h
       all_goals (rw [Bool.eq_iff_iff]; simp [cmpv]; first | done | omega))
    | (unfold onev; simp only [decide_eq_true_eq]; split <;> split <;> split <;> omega)
    | (rcases (show a < b ∨ a = b ∨ b < a by omega) with h | rfl | h
       all_goals (first | (simp [cmpv]; done) | (rw [Bool.eq_iff_iff]; simp [cmpv]; done) | (rw [Bool.eq_iff_iff]; simp [cmpv]; omega)))

set_option maxRecDepth 100000 in
set_option maxHeartbeats 1000000 in
theorem dmono_walk (f a b : Int) (w : World) : Calls Try.prog 7 #[.int .i64 f, .int .i64 a, .int .i64 b] w fun e w' => e = .returned (.bool true) ∧ Below w.heap.size w w' := by
  have BB := Below.refl w.heap.size w
  rcases Int.lt_or_le b a with h | h
  · go_enter Try.func7, Try.ntmps7
    go_wp2_with (first | (go_at_call 17; refine (example38_b _).mono ?_; rintro _ _ ⟨rfl, B⟩; replace BB := bon BB B))
    go_ret
    exact ⟨rfl, BB⟩
  have h1 := dqz_mono f a b h
  have h2 := (dqz_bd f a).1
  have h3 := (dqz_bd f b).2
  have h4 := dqz_zero f a
  have h5 := dqz_one f b
  have CA := Lib.hid (fun W => quant_b f a W)
  have CB := Lib.hid (fun W => quant_b f b W)
  have CM := Lib.hid (fun W => max_b f W)
  obtain ⟨x, hx⟩ : ∃ x, dqz f a = x := ⟨_, rfl⟩
  obtain ⟨y, hy⟩ : ∃ y, dqz f b = y := ⟨_, rfl⟩
  obtain ⟨m, hm⟩ : ∃ m, dmax f = m := ⟨_, rfl⟩
  rw [hx] at h1 h2 h4 CA
  rw [hy] at h1 h3 h5 CB
  rw [hm] at h3 h5 CM
  clear hx hy hm
  rcases (show (0 < a) ∨ (¬ 0 < a ∧ x = 0) by rcases Int.lt_or_le 0 a with q | q; exact .inl q; exact .inr ⟨by omega, h4 (by omega)⟩) with ha | ⟨ha, rfl⟩ <;> rcases (show (b < 65536) ∨ (¬ b < 65536 ∧ y = m) by rcases Int.lt_or_le b 65536 with q | q; exact .inl q; exact .inr ⟨by omega, h5 (by omega)⟩) with hb | ⟨hb, rfl⟩
  all_goals
    clear h4 h5
    go_enter Try.func7, Try.ntmps7
    go_wp2_with (first
      | (go_at_call 13; (with_reducible refine (CA.out _).mono ?_); rintro _ _ ⟨rfl, B⟩; replace BB := bon BB B; clear B)
      | (go_at_call 13; (with_reducible refine (CB.out _).mono ?_); rintro _ _ ⟨rfl, B⟩; replace BB := bon BB B; clear B)
      | (first | (go_at_call 11; refine (CM.out _).mono ?_; rintro _ _ ⟨rfl, B⟩; replace BB := bon BB B) | (go_at_call 17; refine (example38_b _).mono ?_; rintro _ _ ⟨rfl, B⟩; replace BB := bon BB B)))
    go_ret
    exact ⟨ret_bool (by simp <;> omega), BB⟩

set_option maxRecDepth 100000 in
set_option maxHeartbeats 1000000 in
theorem dkeeps_walk (t wr : Bool) (c bi f z old : Int) (w : World) : Calls Try.prog 8 #[.agg #[.bool t, .bool wr, .int .i64 c, .int .i64 bi], .int .i64 f, .int .i64 z, .int .i64 old] w fun e w' => e = .returned (.bool true) ∧ Below w.heap.size w w' := by
  obtain ⟨c0, c1, c2, c3, BB⟩ := box4 w (.bool t) (.bool wr) (.int .i64 c) (.int .i64 bi) 30
  have CT := Lib.hid (fun W => test_b t wr c bi f z old W)
  have CB := Lib.hid (fun W => bits_b f W)
  have CM := Lib.hid (fun W => max_b f W)
  have HQ := dqz_bd f (dbias z bi)
  have CC := Lib.hid (fun W => compare_b c (dqz f (dbias z bi)) old W)
  unfold tst at CT
  obtain ⟨q, hq⟩ : ∃ q, dqz f (dbias z bi) = q := ⟨_, rfl⟩
  rw [hq] at CT HQ CC
  clear hq
  obtain ⟨n, hn⟩ : ∃ n, dbits f = n := ⟨_, rfl⟩
  obtain ⟨m, hm⟩ : ∃ m, dmax f = m := ⟨_, rfl⟩
  rw [hn] at CT CB
  rw [hm] at HQ CM
  clear hn hm
  obtain ⟨v, hv⟩ : ∃ v, cmpv c q old = v := ⟨_, rfl⟩
  rw [hv] at CT CC
  clear hv
  cases t
  · simp only [true_or, if_true] at CT
    go_enter Try.func8, Try.ntmps8
    go_wp2_with (first | (go_at_call 24; refine (CT.out _).mono ?_; rintro _ _ ⟨rfl, B⟩; replace BB := bon BB B; replace c0 := cell_below B c0; replace c1 := cell_below B c1; replace c2 := cell_below B c2; replace c3 := cell_below B c3) | (go_at_call 17; refine (example38_b _).mono ?_; rintro _ _ ⟨rfl, B⟩; replace BB := bon BB B; replace c0 := cell_below B c0; replace c1 := cell_below B c1; replace c2 := cell_below B c2; replace c3 := cell_below B c3))
    go_ret
    exact ⟨rfl, BB⟩
  rcases Int.lt_or_le n 1 with h | h
  · simp only [h, or_true, if_true] at CT
    go_enter Try.func8, Try.ntmps8
    go_wp2_with (first | (go_at_call 24; refine (CT.out _).mono ?_; rintro _ _ ⟨rfl, B⟩; replace BB := bon BB B; replace c0 := cell_below B c0; replace c1 := cell_below B c1; replace c2 := cell_below B c2; replace c3 := cell_below B c3) | (go_at_call 9; refine (CB.out _).mono ?_; rintro _ _ ⟨rfl, B⟩; replace BB := bon BB B; replace c0 := cell_below B c0; replace c1 := cell_below B c1; replace c2 := cell_below B c2; replace c3 := cell_below B c3) | (go_at_call 17; refine (example38_b _).mono ?_; rintro _ _ ⟨rfl, B⟩; replace BB := bon BB B; replace c0 := cell_below B c0; replace c1 := cell_below B c1; replace c2 := cell_below B c2; replace c3 := cell_below B c3))
    go_ret
    exact ⟨rfl, BB⟩
  simp only [show ¬ n < 1 by omega, or_false, Bool.true_eq_false, if_false] at CT
  cases v
  · simp only [Bool.false_eq_true, if_false] at CT
    go_enter Try.func8, Try.ntmps8
    go_wp2_with (first | (go_at_call 24; refine (CT.out _).mono ?_; rintro _ _ ⟨rfl, B⟩; replace BB := bon BB B; replace c0 := cell_below B c0; replace c1 := cell_below B c1; replace c2 := cell_below B c2; replace c3 := cell_below B c3) | (go_at_call 9; refine (CB.out _).mono ?_; rintro _ _ ⟨rfl, B⟩; replace BB := bon BB B; replace c0 := cell_below B c0; replace c1 := cell_below B c1; replace c2 := cell_below B c2; replace c3 := cell_below B c3) | (go_at_call 17; refine (example38_b _).mono ?_; rintro _ _ ⟨rfl, B⟩; replace BB := bon BB B; replace c0 := cell_below B c0; replace c1 := cell_below B c1; replace c2 := cell_below B c2; replace c3 := cell_below B c3))
    go_ret
    exact ⟨rfl, BB⟩
  cases wr
  · simp only [if_true, Bool.false_eq_true, if_false] at CT
    go_enter Try.func8, Try.ntmps8
    go_wp2_with (first | (go_at_call 24; refine (CT.out _).mono ?_; rintro _ _ ⟨rfl, B⟩; replace BB := bon BB B; replace c0 := cell_below B c0; replace c1 := cell_below B c1; replace c2 := cell_below B c2; replace c3 := cell_below B c3) | (go_at_call 9; refine (CB.out _).mono ?_; rintro _ _ ⟨rfl, B⟩; replace BB := bon BB B; replace c0 := cell_below B c0; replace c1 := cell_below B c1; replace c2 := cell_below B c2; replace c3 := cell_below B c3) | (go_at_call 17; refine (example38_b _).mono ?_; rintro _ _ ⟨rfl, B⟩; replace BB := bon BB B; replace c0 := cell_below B c0; replace c1 := cell_below B c1; replace c2 := cell_below B c2; replace c3 := cell_below B c3))
    go_ret
    exact ⟨rfl, BB⟩
  · simp only [if_true] at CT
    obtain ⟨hq1, hq2⟩ := HQ
    go_enter Try.func8, Try.ntmps8
    go_wp2_with (first | (go_at_call 24; refine (CT.out _).mono ?_; rintro _ _ ⟨rfl, B⟩; replace BB := bon BB B; replace c0 := cell_below B c0; replace c1 := cell_below B c1; replace c2 := cell_below B c2; replace c3 := cell_below B c3) | (go_at_call 9; refine (CB.out _).mono ?_; rintro _ _ ⟨rfl, B⟩; replace BB := bon BB B; replace c0 := cell_below B c0; replace c1 := cell_below B c1; replace c2 := cell_below B c2; replace c3 := cell_below B c3) | (go_at_call 11; refine (CM.out _).mono ?_; rintro _ _ ⟨rfl, B⟩; replace BB := bon BB B; replace c0 := cell_below B c0; replace c1 := cell_below B c1; replace c2 := cell_below B c2; replace c3 := cell_below B c3) | (go_at_call 18; refine (CC.out _).mono ?_; rintro _ _ ⟨rfl, B⟩; replace BB := bon BB B; replace c0 := cell_below B c0; replace c1 := cell_below B c1; replace c2 := cell_below B c2; replace c3 := cell_below B c3) | (go_at_call 17; refine (example38_b _).mono ?_; rintro _ _ ⟨rfl, B⟩; replace BB := bon BB B; replace c0 := cell_below B c0; replace c1 := cell_below B c1; replace c2 := cell_below B c2; replace c3 := cell_below B c3))
    go_ret
    exact ⟨ret_bool (by simp), BB⟩

end Go.Proofs.Ytelmffejljegfaa
