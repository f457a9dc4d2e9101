/- What the calls of the reference of package minifloat return. -/
import Derived.Test.YtfakmeimideoaaaMMath4
namespace Go.Proofs.Ytfakmeimideoaaa
open Go.RowKit Go.Sort

theorem power_b (n : Int) (w : World) (h0 : 0 ≤ n) (h1 : n ≤ 62) :
    Calls Try.prog 57 #[.int .i64 n] w fun x w' => x = .returned (.int .i64 (pw n)) ∧ Below w.heap.size w w' := by
  go_enter Try.func57, Try.ntmps57
  go_wp2
  go_loop [3, 4] (fun x i => ∃ k : Int, 0 ≤ k ∧ k ≤ n ∧ i = .int .i64 k ∧ x = .int .i64 (pw k)) (fun _ i => (n - intOf i).toNat)
  case atStart => exact ⟨0, by omega, by omega, rfl, rfl⟩
  case round =>
    obtain ⟨k, k0, k1, rfl, rfl⟩ := hrel
    have p0 := pw_pos k
    by_cases hk : k < n
    · have p1 := pw_le (k + 1) 62 (by omega)
      have p2 := pw_succ k k0
      have p3 : pw 62 = 4611686018427387904 := rfl
      have HP := Lib.hid p2
      have p4 : pw k * 2 ≤ 4611686018427387904 := by omega
      clear p2 p3 p1
      go_wp2
      go_round
      case rel => exact ⟨k + 1, by omega, by omega, rfl, by rw [HP.out, Int.mul_comm]⟩
      case measure => simp [intOf]; omega
    · obtain rfl : k = n := by omega
      go_wp2
      go_ret
      exact ⟨rfl, Below.refl _ _⟩

theorem rvalid_yes (e m : Int) (s : Bool) (w : World) (h1 : 2 ≤ e) (h2 : e ≤ 5) (h3 : 1 ≤ m) (h4 : m ≤ 10) :
    Calls Try.prog 63 #[.agg #[.int .i64 e, .int .i64 m, .bool s]] w fun x w' => x = .returned (.bool true) ∧ Below w.heap.size w w' := by
  obtain ⟨c0, c1, c2, BB⟩ := box3 w (.int .i64 e) (.int .i64 m) (.bool s) 61
  go_enter Try.func63, Try.ntmps63
  go_wp2
  go_ret
  exact ⟨ret_bool (by simp <;> omega), BB⟩

theorem rvalid_no (e m : Int) (s : Bool) (w : World) (h : ¬ (2 ≤ e ∧ e ≤ 5 ∧ 1 ≤ m ∧ m ≤ 10)) :
    Calls Try.prog 63 #[.agg #[.int .i64 e, .int .i64 m, .bool s]] w fun x w' => x = .returned (.bool false) ∧ Below w.heap.size w w' := by
  obtain ⟨c0, c1, c2, BB⟩ := box3 w (.int .i64 e) (.int .i64 m) (.bool s) 61
  go_enter Try.func63, Try.ntmps63
  go_wp2
  all_goals go_ret
  all_goals exact ⟨ret_bool (by simp <;> omega), BB⟩

theorem rbits_b (e m : Int) (s : Bool) (w : World) (h1 : 2 ≤ e) (h2 : e ≤ 5) (h3 : 1 ≤ m) (h4 : m ≤ 10) :
    Calls Try.prog 64 #[.agg #[.int .i64 e, .int .i64 m, .bool s]] w fun x w' => x = .returned (.int .i64 (e + m + sbit s)) ∧ Below w.heap.size w w' := by
  obtain ⟨c0, c1, c2, BB⟩ := box3 w (.int .i64 e) (.int .i64 m) (.bool s) 61
  cases s
  all_goals
    go_enter Try.func64, Try.ntmps64
    go_wp2_with (first | (go_at_call 63; refine (rvalid_yes _ _ _ _ h1 h2 h3 h4).mono ?_; rintro _ _ ⟨rfl, B⟩; replace BB := bon BB B; replace c0 := cell_below B c0; replace c1 := cell_below B c1; replace c2 := cell_below B c2))
    go_ret
    exact ⟨ret_int (by simp [sbit] <;> omega), BB⟩

theorem rbits_no (e m : Int) (s : Bool) (w : World) (h : ¬ (2 ≤ e ∧ e ≤ 5 ∧ 1 ≤ m ∧ m ≤ 10)) :
    Calls Try.prog 64 #[.agg #[.int .i64 e, .int .i64 m, .bool s]] w fun x w' => x = .returned (.int .i64 0) ∧ Below w.heap.size w w' := by
  obtain ⟨c0, c1, c2, BB⟩ := box3 w (.int .i64 e) (.int .i64 m) (.bool s) 61
  have H := Lib.hid h
  clear h
  go_enter Try.func64, Try.ntmps64
  go_wp2_with (first | (go_at_call 63; refine (rvalid_no _ _ _ _ H.out).mono ?_; rintro _ _ ⟨rfl, B⟩; replace BB := bon BB B; replace c0 := cell_below B c0; replace c1 := cell_below B c1; replace c2 := cell_below B c2))
  go_ret
  exact ⟨rfl, BB⟩

theorem rhalf_b (w : World) :
    Calls Try.prog 45 #[] w fun x w' => x = .returned (.agg #[.int .i64 5, .int .i64 10, .bool true]) ∧ Below w.heap.size w w' := by
  go_enter Try.func45, Try.ntmps45
  go_wp2
  exact bodyPost_ret (v := .agg #[.int .i64 5, .int .i64 10, .bool true]) (by simp [results, Try.results45, go_sem]) rfl ⟨rfl, (Below.refl _ _).alloc (Nat.le_refl _) _⟩

theorem rpattern_yes (e m b : Int) (s : Bool) (w : World) (h1 : 2 ≤ e) (h2 : e ≤ 5) (h3 : 1 ≤ m) (h4 : m ≤ 10) (h5 : 0 ≤ b) (h6 : b < pw (e + m + sbit s)) :
    Calls Try.prog 53 #[.agg #[.int .i64 e, .int .i64 m, .bool s], .int .i64 b] w fun x w' => x = .returned (.bool true) ∧ Below w.heap.size w w' := by
  obtain ⟨c0, c1, c2, BB⟩ := box3 w (.int .i64 e) (.int .i64 m) (.bool s) 61
  have sb := sbit_bd s
  go_enter Try.func53, Try.ntmps53
  go_wp2_with (first | (go_at_call 63; refine (rvalid_yes _ _ _ _ h1 h2 h3 h4).mono ?_; rintro _ _ ⟨rfl, B⟩; replace BB := bon BB B; replace c0 := cell_below B c0; replace c1 := cell_below B c1; replace c2 := cell_below B c2) | (go_at_call 64; refine (rbits_b _ _ _ _ h1 h2 h3 h4).mono ?_; rintro _ _ ⟨rfl, B⟩; replace BB := bon BB B; replace c0 := cell_below B c0; replace c1 := cell_below B c1; replace c2 := cell_below B c2) | (go_at_call 57; refine (power_b _ _ (by omega) (by omega)).mono ?_; rintro _ _ ⟨rfl, B⟩; replace BB := bon BB B; replace c0 := cell_below B c0; replace c1 := cell_below B c1; replace c2 := cell_below B c2))
  all_goals go_ret
  all_goals exact ⟨ret_bool (by simp <;> omega), BB⟩

theorem rpattern_no (e m b : Int) (s : Bool) (w : World) (h : ¬ ((2 ≤ e ∧ e ≤ 5 ∧ 1 ≤ m ∧ m ≤ 10) ∧ 0 ≤ b ∧ b < pw (e + m + sbit s))) :
    Calls Try.prog 53 #[.agg #[.int .i64 e, .int .i64 m, .bool s], .int .i64 b] w fun x w' => x = .returned (.bool false) ∧ Below w.heap.size w w' := by
  obtain ⟨c0, c1, c2, BB⟩ := box3 w (.int .i64 e) (.int .i64 m) (.bool s) 61
  have sb := sbit_bd s
  have H := Lib.hid h
  clear h
  by_cases hv : 2 ≤ e ∧ e ≤ 5 ∧ 1 ≤ m ∧ m ≤ 10
  · obtain ⟨h1, h2, h3, h4⟩ := hv
    have hb : b < 0 ∨ (0 ≤ b ∧ pw (e + m + sbit s) ≤ b) := by have := H.out; omega
    rcases hb with hb | ⟨hb1, hb2⟩
    all_goals
      go_enter Try.func53, Try.ntmps53
      go_wp2_with (first | (go_at_call 63; refine (rvalid_yes _ _ _ _ h1 h2 h3 h4).mono ?_; rintro _ _ ⟨rfl, B⟩; replace BB := bon BB B; replace c0 := cell_below B c0; replace c1 := cell_below B c1; replace c2 := cell_below B c2) | (go_at_call 64; refine (rbits_b _ _ _ _ h1 h2 h3 h4).mono ?_; rintro _ _ ⟨rfl, B⟩; replace BB := bon BB B; replace c0 := cell_below B c0; replace c1 := cell_below B c1; replace c2 := cell_below B c2) | (go_at_call 57; refine (power_b _ _ (by omega) (by omega)).mono ?_; rintro _ _ ⟨rfl, B⟩; replace BB := bon BB B; replace c0 := cell_below B c0; replace c1 := cell_below B c1; replace c2 := cell_below B c2))
      all_goals go_ret
      all_goals exact ⟨ret_bool (by simp <;> omega), BB⟩
  · have HV := Lib.hid hv
    clear hv
    go_enter Try.func53, Try.ntmps53
    go_wp2_with (first | (go_at_call 63; refine (rvalid_no _ _ _ _ HV.out).mono ?_; rintro _ _ ⟨rfl, B⟩; replace BB := bon BB B; replace c0 := cell_below B c0; replace c1 := cell_below B c1; replace c2 := cell_below B c2))
    all_goals go_ret
    all_goals exact ⟨rfl, BB⟩

theorem rexp_b (e m b : Int) (s : Bool) (w : World) (h1 : 2 ≤ e) (h2 : e ≤ 5) (h3 : 1 ≤ m) (h4 : m ≤ 10) (h5 : 0 ≤ b) (_h6 : b ≤ 65536) :
    Calls Try.prog 65 #[.agg #[.int .i64 e, .int .i64 m, .bool s], .int .i64 b] w fun x w' => x = .returned (.int .i64 (pexp e m b)) ∧ Below w.heap.size w w' := by
  obtain ⟨c0, c1, c2, BB⟩ := box3 w (.int .i64 e) (.int .i64 m) (.bool s) 61
  have p1 := pw_pos m
  have p2 := pw_pos e
  have q0 : 0 ≤ b / pw m := Int.ediv_nonneg h5 (by omega)
  have q1 : b / pw m ≤ b := Int.ediv_le_self _ h5
  have r1 := pexp_bd e m b
  have i1 : b.tdiv (pw m) = b / pw m := Int.tdiv_eq_ediv_of_nonneg h5
  have i2 : (b / pw m).tmod (pw e) = b / pw m % pw e := Int.tmod_eq_emod_of_nonneg q0
  have n1 : (pw m == 0) = false := by simp; omega
  have n2 : (pw e == 0) = false := by simp; omega
  unfold pexp at r1
  go_enter Try.func65, Try.ntmps65
  go_wp2
  have k_c0 := cell_regrown c0
  have k_c1 := cell_regrown c1
  have k_c2 := cell_regrown c2
  refine wp_region_quiet_below (by kernel_rfl) (by kernel_rfl) ?_
  repeat (first | go_big_quiet_step ((first | (go_at_call 57; exact Calls.regrown_of (power_b _ _ (by omega) (by omega))))) | quiet_step ((first | (go_at_call 57; exact Calls.regrown_of (power_b _ _ (by omega) (by omega))))))
  refine wpQuiet_nil ?_
  intro W hw'
  have B := below_regrown' hw'
  clear hw' k_c0 k_c1 k_c2
  replace BB := bon BB B
  replace c0 := cell_below B c0
  replace c1 := cell_below B c1
  replace c2 := cell_below B c2
  go_wp2
  go_ret
  exact ⟨ret_int (by unfold pexp; first | rfl | omega), BB⟩

theorem rman_b (e m b : Int) (s : Bool) (w : World) (h3 : 1 ≤ m) (h4 : m ≤ 10) (h5 : 0 ≤ b) (_h6 : b ≤ 65536) :
    Calls Try.prog 56 #[.agg #[.int .i64 e, .int .i64 m, .bool s], .int .i64 b] w fun x w' => x = .returned (.int .i64 (pman m b)) ∧ Below w.heap.size w w' := by
  obtain ⟨c0, c1, c2, BB⟩ := box3 w (.int .i64 e) (.int .i64 m) (.bool s) 61
  have p1 := pw_pos m
  have r1 := pman_bd m b
  have i2 : b.tmod (pw m) = b % pw m := Int.tmod_eq_emod_of_nonneg h5
  unfold pman at r1
  go_enter Try.func56, Try.ntmps56
  go_wp2_with (first | (go_at_call 57; refine (power_b _ _ (by omega) (by omega)).mono ?_; rintro _ _ ⟨rfl, B⟩; replace BB := bon BB B; replace c0 := cell_below B c0; replace c1 := cell_below B c1; replace c2 := cell_below B c2))
  go_ret
  exact ⟨ret_int (by unfold pman; first | rfl | omega), BB⟩

theorem rfinite_no (e m b : Int) (s : Bool) (w : World) (h : ¬ ((2 ≤ e ∧ e ≤ 5 ∧ 1 ≤ m ∧ m ≤ 10) ∧ 0 ≤ b ∧ b < pw (e + m + sbit s))) :
    Calls Try.prog 54 #[.agg #[.int .i64 e, .int .i64 m, .bool s], .int .i64 b] w fun x w' => x = .returned (.bool false) ∧ Below w.heap.size w w' := by
  obtain ⟨c0, c1, c2, BB⟩ := box3 w (.int .i64 e) (.int .i64 m) (.bool s) 61
  have H := Lib.hid h
  clear h
  go_enter Try.func54, Try.ntmps54
  go_wp2
  have k_c0 := cell_regrown c0
  have k_c1 := cell_regrown c1
  have k_c2 := cell_regrown c2
  refine wp_region_quiet_below (by kernel_rfl) (by kernel_rfl) ?_
  repeat (first | go_big_quiet_step ((first | (go_at_call 53; exact Calls.regrown_of (rpattern_no _ _ _ _ _ H.out)))) | quiet_step ((first | (go_at_call 53; exact Calls.regrown_of (rpattern_no _ _ _ _ _ H.out)))))
  refine wpQuiet_nil ?_
  intro W hw'
  have B := below_regrown' hw'
  clear hw' k_c0 k_c1 k_c2
  replace BB := bon BB B
  replace c0 := cell_below B c0
  replace c1 := cell_below B c1
  replace c2 := cell_below B c2
  go_wp2
  go_ret
  exact ⟨rfl, BB⟩

theorem rfinite_yes (e m b : Int) (s : Bool) (w : World) (h1 : 2 ≤ e) (h2 : e ≤ 5) (h3 : 1 ≤ m) (h4 : m ≤ 10) (h5 : 0 ≤ b) (h6 : b < pw (e + m + sbit s)) :
    Calls Try.prog 54 #[.agg #[.int .i64 e, .int .i64 m, .bool s], .int .i64 b] w fun x w' => x = .returned (.bool (pexp e m b != pw e - 1)) ∧ Below w.heap.size w w' := by
  obtain ⟨c0, c1, c2, BB⟩ := box3 w (.int .i64 e) (.int .i64 m) (.bool s) 61
  have sb := sbit_bd s
  have p0 : pw (e + m + sbit s) ≤ 65536 := pw_le _ 16 (by omega)
  have p1 := pw_pos e
  have p2 : pw e ≤ 32 := pw_le _ 5 (by omega)
  have i1 : IntKind.i64.wrap (pw e - 1) = pw e - 1 := IntWalk.i64_in _ (by omega)
  go_enter Try.func54, Try.ntmps54
  go_wp2
  have k_c0 := cell_regrown c0
  have k_c1 := cell_regrown c1
  have k_c2 := cell_regrown c2
  refine wp_region_quiet_below (by kernel_rfl) (by kernel_rfl) ?_
  repeat (first | go_big_quiet_step ((first | (go_at_call 53; exact Calls.regrown_of (rpattern_yes _ _ _ _ _ h1 h2 h3 h4 h5 h6)) | (go_at_call 65; exact Calls.regrown_of (rexp_b _ _ _ _ _ h1 h2 h3 h4 h5 (by omega))) | (go_at_call 57; exact Calls.regrown_of (power_b _ _ (by omega) (by omega))))) | quiet_step ((first | (go_at_call 53; exact Calls.regrown_of (rpattern_yes _ _ _ _ _ h1 h2 h3 h4 h5 h6)) | (go_at_call 65; exact Calls.regrown_of (rexp_b _ _ _ _ _ h1 h2 h3 h4 h5 (by omega))) | (go_at_call 57; exact Calls.regrown_of (power_b _ _ (by omega) (by omega))))))
  refine wpQuiet_nil ?_
  intro W hw'
  have B := below_regrown' hw'
  clear hw' k_c0 k_c1 k_c2
  replace BB := bon BB B
  replace c0 := cell_below B c0
  replace c1 := cell_below B c1
  replace c2 := cell_below B c2
  go_wp2
  go_ret
  exact ⟨rfl, BB⟩

theorem rscaled_b (e m b : Int) (s : Bool) (w : World) (h1 : 2 ≤ e) (h2 : e ≤ 5) (h3 : 1 ≤ m) (h4 : m ≤ 10) (h5 : 0 ≤ b) (h6 : b ≤ 65536) :
    Calls Try.prog 55 #[.agg #[.int .i64 e, .int .i64 m, .bool s], .int .i64 b] w fun x w' => x = .returned (.int .i64 (scal e m b)) ∧ Below w.heap.size w w' := by
  obtain ⟨c0, c1, c2, BB⟩ := box3 w (.int .i64 e) (.int .i64 m) (.bool s) 61
  have sbd := scal_bd e m b h1 h2 h3 h4
  have bE := pexp_bd e m b
  have bM := pman_bd m b
  have bb := biasv_bd h1 h2
  have hE := rexp_b e m b s
  have hM := rman_b e m b s
  have HB : Hid (biasv e = pw (e - 1) - 1) := Lib.hid rfl
  have p1 := pw_pos m
  have p2 : pw m ≤ 1024 := pw_le _ 10 (by omega)
  have p3 := pw_pos (e - 1)
  have p4 : pw (e - 1) ≤ 16 := pw_le _ 4 (by omega)
  have p5 : pw e ≤ 32 := pw_le _ 5 (by omega)
  have HS : Hid (scal e m b = fld e m (pexp e m b) (pman m b)) := Lib.hid rfl
  generalize scal e m b = D at *
  generalize pexp e m b = E at *
  generalize pman m b = M at *
  by_cases hz : E = 0
  · have HD : Hid (D = M * pw (25 - (pw (e - 1) - 1) - m)) := Lib.hid (by rw [HS.out, ← HB.out]; unfold fld; rw [if_pos hz, if_pos hz]; rfl)
    have bb' : 1 ≤ pw (e - 1) - 1 ∧ pw (e - 1) - 1 ≤ 15 := by have := HB.out; omega
    have bd' : 0 ≤ M * pw (25 - (pw (e - 1) - 1) - m) ∧ M * pw (25 - (pw (e - 1) - 1) - m) ≤ 2251799813685248 := by have := HD.out; omega
    have t1 : (E == 0) = true := by simpa using hz
    clear hz
    go_enter Try.func55, Try.ntmps55
    go_wp2_with (first | (go_at_call 65; refine (hE _ h1 h2 h3 h4 h5 h6).mono ?_; rintro _ _ ⟨rfl, B⟩; replace BB := bon BB B; replace c0 := cell_below B c0; replace c1 := cell_below B c1; replace c2 := cell_below B c2) | (go_at_call 56; refine (hM _ h3 h4 h5 h6).mono ?_; rintro _ _ ⟨rfl, B⟩; replace BB := bon BB B; replace c0 := cell_below B c0; replace c1 := cell_below B c1; replace c2 := cell_below B c2) | (go_at_call 57; refine (power_b _ _ (by omega) (by omega)).mono ?_; rintro _ _ ⟨rfl, B⟩; replace BB := bon BB B; replace c0 := cell_below B c0; replace c1 := cell_below B c1; replace c2 := cell_below B c2))
    go_ret
    exact ⟨ret_int HD.out.symm, BB⟩
  · have HD : Hid (D = (M + pw m) * pw (24 + E - (pw (e - 1) - 1) - m)) := Lib.hid (by rw [HS.out, ← HB.out]; unfold fld; rw [if_neg hz, if_neg hz])
    have bb' : 1 ≤ pw (e - 1) - 1 ∧ pw (e - 1) - 1 ≤ 15 := by have := HB.out; omega
    have bd' : 0 ≤ (M + pw m) * pw (24 + E - (pw (e - 1) - 1) - m) ∧ (M + pw m) * pw (24 + E - (pw (e - 1) - 1) - m) ≤ 2251799813685248 := by have := HD.out; omega
    have t1 : (E == 0) = false := by simpa using hz
    have e1 : 1 ≤ E := by omega
    clear hz
    go_enter Try.func55, Try.ntmps55
    go_wp2_with (first | (go_at_call 65; refine (hE _ h1 h2 h3 h4 h5 h6).mono ?_; rintro _ _ ⟨rfl, B⟩; replace BB := bon BB B; replace c0 := cell_below B c0; replace c1 := cell_below B c1; replace c2 := cell_below B c2) | (go_at_call 56; refine (hM _ h3 h4 h5 h6).mono ?_; rintro _ _ ⟨rfl, B⟩; replace BB := bon BB B; replace c0 := cell_below B c0; replace c1 := cell_below B c1; replace c2 := cell_below B c2) | (go_at_call 57; refine (power_b _ _ (by omega) (by omega)).mono ?_; rintro _ _ ⟨rfl, B⟩; replace BB := bon BB B; replace c0 := cell_below B c0; replace c1 := cell_below B c1; replace c2 := cell_below B c2))
    go_ret
    exact ⟨ret_int HD.out.symm, BB⟩

/-! ### Decode -/
theorem rdm_bd (e m b : Int) (h1 : 2 ≤ e) (h2 : e ≤ 5) (h3 : 1 ≤ m) (h4 : m ≤ 10) : 0 ≤ rdm e m b ∧ rdm e m b ≤ 1125899906842624 := by
  have := scal_bd e m b h1 h2 h3 h4
  unfold rdm; split
  · split <;> omega
  · omega

theorem rdecode_no (e m b : Int) (s : Bool) (w : World) (h : ¬ ((2 ≤ e ∧ e ≤ 5 ∧ 1 ≤ m ∧ m ≤ 10) ∧ 0 ≤ b ∧ b < pw (e + m + sbit s))) :
    Calls Try.prog 44 #[.agg #[.int .i64 e, .int .i64 m, .bool s], .int .i64 b] w fun x w' => x = .returned (.int .i64 0) ∧ Below w.heap.size w w' := by
  obtain ⟨c0, c1, c2, BB⟩ := box3 w (.int .i64 e) (.int .i64 m) (.bool s) 61
  have H := Lib.hid h
  clear h
  go_enter Try.func44, Try.ntmps44
  go_wp2_with (first | (go_at_call 53; refine (rpattern_no _ _ _ _ _ H.out).mono ?_; rintro _ _ ⟨rfl, B⟩; replace BB := bon BB B; replace c0 := cell_below B c0; replace c1 := cell_below B c1; replace c2 := cell_below B c2))
  go_ret
  exact ⟨rfl, BB⟩

theorem rdecode_yes (e m b : Int) (s : Bool) (w : World) (h1 : 2 ≤ e) (h2 : e ≤ 5) (h3 : 1 ≤ m) (h4 : m ≤ 10) (h5 : 0 ≤ b) (h6 : b < pw (e + m + sbit s)) :
    Calls Try.prog 44 #[.agg #[.int .i64 e, .int .i64 m, .bool s], .int .i64 b] w fun x w' => x = .returned (.int .i64 (decv e m b)) ∧ Below w.heap.size w w' := by
  obtain ⟨c0, c1, c2, BB⟩ := box3 w (.int .i64 e) (.int .i64 m) (.bool s) 61
  have sb := sbit_bd s
  have pb : pw (e + m + sbit s) ≤ 65536 := pw_le _ 16 (by omega)
  have rb := rdm_bd e m b h1 h2 h3 h4
  have sbd := scal_bd e m b h1 h2 h3 h4
  have hF := rfinite_yes e m b s
  have hM := rman_b e m b s
  have HV : Hid (decv e m b = if decide (pw (e + m) ≤ b) then -(if 536870911 < rdm e m b then 536870911 else rdm e m b) else (if 536870911 < rdm e m b then 536870911 else rdm e m b)) := Lib.hid (by
    unfold decv; rw [rdm_eq e m b h1 h2 h3 h4]; rfl)
  have HR : Hid (rdm e m b = if pexp e m b = pw e - 1 then (if pman m b = 0 then 536870911 else 0) else (scal e m b + 128) / 256) := Lib.hid rfl
  have hS : s = false → b < pw (e + m) := by rintro rfl; simpa [sbit] using h6
  have HSS := Lib.hid hS
  clear hS
  by_cases hs : pexp e m b = pw e - 1
  · have t1 : (pexp e m b != pw e - 1) = false := by simpa using hs
    by_cases hm : pman m b = 0
    · have HR2 : Hid (rdm e m b = 536870911) := Lib.hid (by rw [HR.out, if_pos hs, if_pos hm])
      have t2 : (pman m b == 0) = true := by simpa using hm
      clear hs hm
      go_enter Try.func44, Try.ntmps44
      go_wp2_with (first | (go_at_call 53; refine (rpattern_yes _ _ _ _ _ h1 h2 h3 h4 h5 h6).mono ?_; rintro _ _ ⟨rfl, B⟩; replace BB := bon BB B; replace c0 := cell_below B c0; replace c1 := cell_below B c1; replace c2 := cell_below B c2) | (go_at_call 54; refine (hF _ h1 h2 h3 h4 h5 h6).mono ?_; rintro _ _ ⟨rfl, B⟩; replace BB := bon BB B; replace c0 := cell_below B c0; replace c1 := cell_below B c1; replace c2 := cell_below B c2) | (go_at_call 56; refine (hM _ h3 h4 h5 (by omega)).mono ?_; rintro _ _ ⟨rfl, B⟩; replace BB := bon BB B; replace c0 := cell_below B c0; replace c1 := cell_below B c1; replace c2 := cell_below B c2) | (go_at_call 55; refine (rscaled_b _ _ _ _ _ h1 h2 h3 h4 h5 (by omega)).mono ?_; rintro _ _ ⟨rfl, B⟩; replace BB := bon BB B; replace c0 := cell_below B c0; replace c1 := cell_below B c1; replace c2 := cell_below B c2) | (go_at_call 57; refine (power_b _ _ (by omega) (by omega)).mono ?_; rintro _ _ ⟨rfl, B⟩; replace BB := bon BB B; replace c0 := cell_below B c0; replace c1 := cell_below B c1; replace c2 := cell_below B c2))
      all_goals go_ret
      all_goals exact ⟨ret_int (by have g := HSS.out; rw [HV.out, HR2.out]; simp_all <;> omega), BB⟩
    · have HR2 : Hid (rdm e m b = 0) := Lib.hid (by rw [HR.out, if_pos hs, if_neg hm])
      have t2 : (pman m b == 0) = false := by simpa using hm
      clear hs hm
      go_enter Try.func44, Try.ntmps44
      go_wp2_with (first | (go_at_call 53; refine (rpattern_yes _ _ _ _ _ h1 h2 h3 h4 h5 h6).mono ?_; rintro _ _ ⟨rfl, B⟩; replace BB := bon BB B; replace c0 := cell_below B c0; replace c1 := cell_below B c1; replace c2 := cell_below B c2) | (go_at_call 54; refine (hF _ h1 h2 h3 h4 h5 h6).mono ?_; rintro _ _ ⟨rfl, B⟩; replace BB := bon BB B; replace c0 := cell_below B c0; replace c1 := cell_below B c1; replace c2 := cell_below B c2) | (go_at_call 56; refine (hM _ h3 h4 h5 (by omega)).mono ?_; rintro _ _ ⟨rfl, B⟩; replace BB := bon BB B; replace c0 := cell_below B c0; replace c1 := cell_below B c1; replace c2 := cell_below B c2) | (go_at_call 55; refine (rscaled_b _ _ _ _ _ h1 h2 h3 h4 h5 (by omega)).mono ?_; rintro _ _ ⟨rfl, B⟩; replace BB := bon BB B; replace c0 := cell_below B c0; replace c1 := cell_below B c1; replace c2 := cell_below B c2) | (go_at_call 57; refine (power_b _ _ (by omega) (by omega)).mono ?_; rintro _ _ ⟨rfl, B⟩; replace BB := bon BB B; replace c0 := cell_below B c0; replace c1 := cell_below B c1; replace c2 := cell_below B c2))
      all_goals go_ret
      all_goals exact ⟨ret_int (by have g := HSS.out; rw [HV.out, HR2.out]; simp_all <;> omega), BB⟩
  · have HR2 : Hid (rdm e m b = (scal e m b + 128) / 256) := Lib.hid (by rw [HR.out, if_neg hs])
    have t1 : (pexp e m b != pw e - 1) = true := by simpa using hs
    clear hs
    go_enter Try.func44, Try.ntmps44
    go_wp2_with (first | (go_at_call 53; refine (rpattern_yes _ _ _ _ _ h1 h2 h3 h4 h5 h6).mono ?_; rintro _ _ ⟨rfl, B⟩; replace BB := bon BB B; replace c0 := cell_below B c0; replace c1 := cell_below B c1; replace c2 := cell_below B c2) | (go_at_call 54; refine (hF _ h1 h2 h3 h4 h5 h6).mono ?_; rintro _ _ ⟨rfl, B⟩; replace BB := bon BB B; replace c0 := cell_below B c0; replace c1 := cell_below B c1; replace c2 := cell_below B c2) | (go_at_call 56; refine (hM _ h3 h4 h5 (by omega)).mono ?_; rintro _ _ ⟨rfl, B⟩; replace BB := bon BB B; replace c0 := cell_below B c0; replace c1 := cell_below B c1; replace c2 := cell_below B c2) | (go_at_call 55; refine (rscaled_b _ _ _ _ _ h1 h2 h3 h4 h5 (by omega)).mono ?_; rintro _ _ ⟨rfl, B⟩; replace BB := bon BB B; replace c0 := cell_below B c0; replace c1 := cell_below B c1; replace c2 := cell_below B c2) | (go_at_call 57; refine (power_b _ _ (by omega) (by omega)).mono ?_; rintro _ _ ⟨rfl, B⟩; replace BB := bon BB B; replace c0 := cell_below B c0; replace c1 := cell_below B c1; replace c2 := cell_below B c2))
    all_goals go_ret
    all_goals exact ⟨ret_int (by have g := HSS.out; rw [HV.out, HR2.out]; simp_all <;> omega), BB⟩

end Go.Proofs.Ytfakmeimideoaaa
