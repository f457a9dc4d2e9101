/- What Decode, Encode and Quantize of package minifloat return. -/
import Derived.Test.YtfakmeimideoaaaMini2
import Derived.Outline
namespace Go.Proofs.Ytfakmeimideoaaa
open Go.RowKit Go.Sort

theorem pexp_bd (e m b : Int) : 0 ≤ pexp e m b ∧ pexp e m b < pw e := by
  have := pw_pos e
  exact ⟨Int.emod_nonneg _ (by omega), Int.emod_lt_of_pos _ (by omega)⟩
theorem pman_bd (m b : Int) : 0 ≤ pman m b ∧ pman m b < pw m := by
  have := pw_pos m
  exact ⟨Int.emod_nonneg _ (by omega), Int.emod_lt_of_pos _ (by omega)⟩
theorem decu_bd (e m E M : Int) : -536870911 ≤ decu e m E M ∧ decu e m E M ≤ 536870911 := sat_bd _

set_option maxRecDepth 100000 in
set_option maxHeartbeats 800000 in
theorem decode_yes (e m b : Int) (s : Bool) (w : World) (h1 : 2 ≤ e) (h2 : e ≤ 5) (h3 : 1 ≤ m) (h4 : m ≤ 10) (h5 : 0 ≤ b) (h6 : b < pw (e + m + sbit s)) :
    Calls Try.prog 48 #[.agg #[.int .i64 e, .int .i64 m, .bool s], .int .i64 b] w fun x w' => x = .returned (.int .i64 (decv e m b)) ∧ Below w.heap.size w w' := by
  obtain ⟨c0, c1, c2, BB⟩ := box3 w (.int .i64 e) (.int .i64 m) (.bool s) 61
  have bE := pexp_bd e m b
  have bM := pman_bd m b
  have HV : Hid (decv e m b = if pneg e m b then -decm e m (pexp e m b) (pman m b) else decm e m (pexp e m b) (pman m b)) := Lib.hid rfl
  have hs := split_yes e m b s
  generalize decv e m b = D at *
  generalize pexp e m b = E at *
  generalize pman m b = M at *
  generalize pneg e m b = G at *
  have p1 := pw_pos m
  have p2 : pw m ≤ 1024 := pw_le _ 10 (by omega)
  have p3 : 4 ≤ pw e := pw_le 2 e (by omega)
  have p4 : pw e ≤ 32 := pw_le _ 5 (by omega)
  have bb := biasv_bd h1 h2
  have i2 := pw_i64 m (by omega)
  have o1 : bits .or .i64 M (pw m) = pw m + M := by rw [or_comm']; exact or_high M m (by omega) bM.1 bM.2
  have cases : (E = pw e - 1 ∧ M ≠ 0) ∨ (E = pw e - 1 ∧ M = 0) ∨ (E ≠ pw e - 1 ∧ E = 0) ∨ (E ≠ pw e - 1 ∧ E = 1) ∨ (E ≠ pw e - 1 ∧ 1 < E) := by omega
  rcases cases with ⟨e1, e2⟩ | ⟨e1, e2⟩ | ⟨e1, e2⟩ | ⟨e1, e2⟩ | ⟨e1, e2⟩
  · have HD : Hid (decm e m E M = 0) := Lib.hid (by unfold decm; rw [if_pos e1, if_neg e2])
    have t1 : (E == pw e - 1) = true := by simpa using e1
    have t3 : (M != 0) = true := by simpa using e2
    clear e1 e2
    go_enter Try.func48, Try.ntmps48
    go_wp2_with (go_at_call 58; refine (hs _ h1 h2 h3 h4 h5 h6).mono ?_; rintro _ _ ⟨rfl, B⟩; replace BB := bon BB B; replace c0 := cell_below B c0; replace c1 := cell_below B c1; replace c2 := cell_below B c2)
    obtain ⟨B, q0, q1, q2, BB⟩ := box3_on BB (.bool G) (.int .i64 E) (.int .i64 M) 66
    replace c0 := cell_below B c0; replace c1 := cell_below B c1; replace c2 := cell_below B c2
    have k_c0 := cell_regrown c0
    have k_c1 := cell_regrown c1
    have k_c2 := cell_regrown c2
    have k_q0 := cell_regrown q0
    have k_q1 := cell_regrown q1
    have k_q2 := cell_regrown q2
    refine wp_region_quiet_below (by kernel_rfl) (by kernel_rfl) ?_
    repeat (first | go_big_quiet_step ((first | (go_at_call 59; exact Calls.regrown_of (special_b _ _ _ _ h1 h2)))) | quiet_step ((first | (go_at_call 59; exact Calls.regrown_of (special_b _ _ _ _ h1 h2)))))
    refine wpQuiet_nil ?_
    intro W hw'
    have B := below_regrown' hw'
    clear hw' k_c0 k_c1 k_c2 k_q0 k_q1 k_q2
    replace BB := bon BB B
    replace c0 := cell_below B c0
    replace c1 := cell_below B c1
    replace c2 := cell_below B c2
    replace q0 := cell_below B q0
    replace q1 := cell_below B q1
    replace q2 := cell_below B q2
    go_wp2
    go_ret
    exact ⟨ret_int (by rw [HV.out, HD.out]; simp), BB⟩
  · have HD : Hid (decm e m E M = 536870911) := Lib.hid (by unfold decm; rw [if_pos e1, if_pos e2])
    have t1 : (E == pw e - 1) = true := by simpa using e1
    have t3 : (M != 0) = false := by simpa using e2
    clear e1 e2
    go_enter Try.func48, Try.ntmps48
    go_wp2_with (go_at_call 58; refine (hs _ h1 h2 h3 h4 h5 h6).mono ?_; rintro _ _ ⟨rfl, B⟩; replace BB := bon BB B; replace c0 := cell_below B c0; replace c1 := cell_below B c1; replace c2 := cell_below B c2)
    obtain ⟨B, q0, q1, q2, BB⟩ := box3_on BB (.bool G) (.int .i64 E) (.int .i64 M) 66
    replace c0 := cell_below B c0; replace c1 := cell_below B c1; replace c2 := cell_below B c2
    have k_c0 := cell_regrown c0
    have k_c1 := cell_regrown c1
    have k_c2 := cell_regrown c2
    have k_q0 := cell_regrown q0
    have k_q1 := cell_regrown q1
    have k_q2 := cell_regrown q2
    refine wp_region_quiet_below (by kernel_rfl) (by kernel_rfl) ?_
    repeat (first | go_big_quiet_step ((first | (go_at_call 59; exact Calls.regrown_of (special_b _ _ _ _ h1 h2)))) | quiet_step ((first | (go_at_call 59; exact Calls.regrown_of (special_b _ _ _ _ h1 h2)))))
    refine wpQuiet_nil ?_
    intro W hw'
    have B := below_regrown' hw'
    clear hw' k_c0 k_c1 k_c2 k_q0 k_q1 k_q2
    replace BB := bon BB B
    replace c0 := cell_below B c0
    replace c1 := cell_below B c1
    replace c2 := cell_below B c2
    replace q0 := cell_below B q0
    replace q1 := cell_below B q1
    replace q2 := cell_below B q2
    go_wp2
    have k_c0 := cell_regrown c0
    have k_c1 := cell_regrown c1
    have k_c2 := cell_regrown c2
    have k_q0 := cell_regrown q0
    have k_q1 := cell_regrown q1
    have k_q2 := cell_regrown q2
    refine wp_region_quiet_below (by kernel_rfl) (by kernel_rfl) ?_
    repeat (first | go_big_quiet_step ((first | (go_at_call 59; exact Calls.regrown_of (special_b _ _ _ _ h1 h2)))) | quiet_step ((first | (go_at_call 59; exact Calls.regrown_of (special_b _ _ _ _ h1 h2)))))
    refine wpQuiet_nil ?_
    intro W hw'
    have B := below_regrown' hw'
    clear hw' k_c0 k_c1 k_c2 k_q0 k_q1 k_q2
    replace BB := bon BB B
    replace c0 := cell_below B c0
    replace c1 := cell_below B c1
    replace c2 := cell_below B c2
    replace q0 := cell_below B q0
    replace q1 := cell_below B q1
    replace q2 := cell_below B q2
    go_wp2
    all_goals go_ret
    all_goals exact ⟨ret_int (by rw [HV.out, HD.out]; simp [*]), BB⟩
  · have k1 := pw_pos 1
    have k2 : pw 1 ≤ 2147483648 := pw_le _ 31 (by omega)
    have m1 := mul_bd (M) (65536 * pw 1) 2048 140737488355328 (by omega) (by omega) (by omega) (by omega)
    have i5 : IntKind.i64.wrap ((M) * (65536 * pw 1)) = (M) * (65536 * pw 1) := IntWalk.i64_in _ (by omega)
    have bs := sat_bd (rda ((M) * (65536 * pw 1)) (pw (biasv e + m)))
    have HD : Hid (decm e m E M = sat (rda ((M) * (65536 * pw 1)) (pw (biasv e + m)))) := Lib.hid (by unfold decm decu; rw [if_neg e1, if_pos e2, if_neg (by omega)])
    have t1 : (E == pw e - 1) = false := by simpa using e1
    have t0 : (E != 0) = false := by simpa using e2
    have e3 : E ≤ 1 := by omega
    have e4 : (0 : Int) ≤ 1 ∧ (1 : Int) ≤ 40 := by omega
    clear e1 e2
    go_enter Try.func48, Try.ntmps48
    go_wp2_with (go_at_call 58; refine (hs _ h1 h2 h3 h4 h5 h6).mono ?_; rintro _ _ ⟨rfl, B⟩; replace BB := bon BB B; replace c0 := cell_below B c0; replace c1 := cell_below B c1; replace c2 := cell_below B c2)
    obtain ⟨B, q0, q1, q2, BB⟩ := box3_on BB (.bool G) (.int .i64 E) (.int .i64 M) 66
    replace c0 := cell_below B c0; replace c1 := cell_below B c1; replace c2 := cell_below B c2
    have k_c0 := cell_regrown c0
    have k_c1 := cell_regrown c1
    have k_c2 := cell_regrown c2
    have k_q0 := cell_regrown q0
    have k_q1 := cell_regrown q1
    have k_q2 := cell_regrown q2
    refine wp_region_quiet_below (by kernel_rfl) (by kernel_rfl) ?_
    repeat (first | go_big_quiet_step ((first | (go_at_call 59; exact Calls.regrown_of (special_b _ _ _ _ h1 h2)))) | quiet_step ((first | (go_at_call 59; exact Calls.regrown_of (special_b _ _ _ _ h1 h2)))))
    refine wpQuiet_nil ?_
    intro W hw'
    have B := below_regrown' hw'
    clear hw' k_c0 k_c1 k_c2 k_q0 k_q1 k_q2
    replace BB := bon BB B
    replace c0 := cell_below B c0
    replace c1 := cell_below B c1
    replace c2 := cell_below B c2
    replace q0 := cell_below B q0
    replace q1 := cell_below B q1
    replace q2 := cell_below B q2
    go_wp2
    have k_c0 := cell_regrown c0
    have k_c1 := cell_regrown c1
    have k_c2 := cell_regrown c2
    have k_q0 := cell_regrown q0
    have k_q1 := cell_regrown q1
    have k_q2 := cell_regrown q2
    refine wp_region_quiet_below (by kernel_rfl) (by kernel_rfl) ?_
    repeat (first | go_big_quiet_step ((first | (go_at_call 59; exact Calls.regrown_of (special_b _ _ _ _ h1 h2)))) | quiet_step ((first | (go_at_call 59; exact Calls.regrown_of (special_b _ _ _ _ h1 h2)))))
    refine wpQuiet_nil ?_
    intro W hw'
    have B := below_regrown' hw'
    clear hw' k_c0 k_c1 k_c2 k_q0 k_q1 k_q2
    replace BB := bon BB B
    replace c0 := cell_below B c0
    replace c1 := cell_below B c1
    replace c2 := cell_below B c2
    replace q0 := cell_below B q0
    replace q1 := cell_below B q1
    replace q2 := cell_below B q2
    go_wp2
    have k_c0 := cell_regrown c0
    have k_c1 := cell_regrown c1
    have k_c2 := cell_regrown c2
    have k_q0 := cell_regrown q0
    have k_q1 := cell_regrown q1
    have k_q2 := cell_regrown q2
    refine wp_region_quiet_below (by kernel_rfl) (by kernel_rfl) ?_
    repeat (first | go_big_quiet_step ((first | (go_at_call 60; exact Calls.regrown_of (expscale_b _ _ e4.1 e4.2)) | (go_at_call 61; exact Calls.regrown_of (manscale_b _ _ _ _ h1 h2 h3 h4)) | (go_at_call 47; exact Calls.regrown_of (rounddiv_b _ _ _)) | (go_at_call 51; exact Calls.regrown_of (saturate_b _ _)))) | quiet_step ((first | (go_at_call 60; exact Calls.regrown_of (expscale_b _ _ e4.1 e4.2)) | (go_at_call 61; exact Calls.regrown_of (manscale_b _ _ _ _ h1 h2 h3 h4)) | (go_at_call 47; exact Calls.regrown_of (rounddiv_b _ _ _)) | (go_at_call 51; exact Calls.regrown_of (saturate_b _ _)))))
    refine wpQuiet_nil ?_
    intro W hw'
    have B := below_regrown' hw'
    clear hw' k_c0 k_c1 k_c2 k_q0 k_q1 k_q2
    replace BB := bon BB B
    replace c0 := cell_below B c0
    replace c1 := cell_below B c1
    replace c2 := cell_below B c2
    replace q0 := cell_below B q0
    replace q1 := cell_below B q1
    replace q2 := cell_below B q2
    go_wp2
    all_goals go_ret
    all_goals exact ⟨ret_int (by rw [HV.out, HD.out]; simp [*]), BB⟩
  · have k1 := pw_pos 1
    have k2 : pw 1 ≤ 2147483648 := pw_le _ 31 (by omega)
    have m1 := mul_bd (pw m + M) (65536 * pw 1) 2048 140737488355328 (by omega) (by omega) (by omega) (by omega)
    have i5 : IntKind.i64.wrap ((pw m + M) * (65536 * pw 1)) = (pw m + M) * (65536 * pw 1) := IntWalk.i64_in _ (by omega)
    have bs := sat_bd (rda ((pw m + M) * (65536 * pw 1)) (pw (biasv e + m)))
    have HD : Hid (decm e m E M = sat (rda ((pw m + M) * (65536 * pw 1)) (pw (biasv e + m)))) := Lib.hid (by unfold decm decu; rw [if_neg e1, if_neg (by omega), if_neg (by omega), Int.add_comm M])
    have t1 : (E == pw e - 1) = false := by simpa using e1
    have t0 : (E != 0) = true := by simp; omega
    have e3 : E ≤ 1 := by omega
    have e4 : (0 : Int) ≤ 1 ∧ (1 : Int) ≤ 40 := by omega
    clear e1 e2
    go_enter Try.func48, Try.ntmps48
    go_wp2_with (go_at_call 58; refine (hs _ h1 h2 h3 h4 h5 h6).mono ?_; rintro _ _ ⟨rfl, B⟩; replace BB := bon BB B; replace c0 := cell_below B c0; replace c1 := cell_below B c1; replace c2 := cell_below B c2)
    obtain ⟨B, q0, q1, q2, BB⟩ := box3_on BB (.bool G) (.int .i64 E) (.int .i64 M) 66
    replace c0 := cell_below B c0; replace c1 := cell_below B c1; replace c2 := cell_below B c2
    have k_c0 := cell_regrown c0
    have k_c1 := cell_regrown c1
    have k_c2 := cell_regrown c2
    have k_q0 := cell_regrown q0
    have k_q1 := cell_regrown q1
    have k_q2 := cell_regrown q2
    refine wp_region_quiet_below (by kernel_rfl) (by kernel_rfl) ?_
    repeat (first | go_big_quiet_step ((first | (go_at_call 59; exact Calls.regrown_of (special_b _ _ _ _ h1 h2)))) | quiet_step ((first | (go_at_call 59; exact Calls.regrown_of (special_b _ _ _ _ h1 h2)))))
    refine wpQuiet_nil ?_
    intro W hw'
    have B := below_regrown' hw'
    clear hw' k_c0 k_c1 k_c2 k_q0 k_q1 k_q2
    replace BB := bon BB B
    replace c0 := cell_below B c0
    replace c1 := cell_below B c1
    replace c2 := cell_below B c2
    replace q0 := cell_below B q0
    replace q1 := cell_below B q1
    replace q2 := cell_below B q2
    go_wp2
    have k_c0 := cell_regrown c0
    have k_c1 := cell_regrown c1
    have k_c2 := cell_regrown c2
    have k_q0 := cell_regrown q0
    have k_q1 := cell_regrown q1
    have k_q2 := cell_regrown q2
    refine wp_region_quiet_below (by kernel_rfl) (by kernel_rfl) ?_
    repeat (first | go_big_quiet_step ((first | (go_at_call 59; exact Calls.regrown_of (special_b _ _ _ _ h1 h2)))) | quiet_step ((first | (go_at_call 59; exact Calls.regrown_of (special_b _ _ _ _ h1 h2)))))
    refine wpQuiet_nil ?_
    intro W hw'
    have B := below_regrown' hw'
    clear hw' k_c0 k_c1 k_c2 k_q0 k_q1 k_q2
    replace BB := bon BB B
    replace c0 := cell_below B c0
    replace c1 := cell_below B c1
    replace c2 := cell_below B c2
    replace q0 := cell_below B q0
    replace q1 := cell_below B q1
    replace q2 := cell_below B q2
    go_wp2
    have k_c0 := cell_regrown c0
    have k_c1 := cell_regrown c1
    have k_c2 := cell_regrown c2
    have k_q0 := cell_regrown q0
    have k_q1 := cell_regrown q1
    have k_q2 := cell_regrown q2
    refine wp_region_quiet_below (by kernel_rfl) (by kernel_rfl) ?_
    repeat (first | go_big_quiet_step ((first | (go_at_call 60; exact Calls.regrown_of (expscale_b _ _ e4.1 e4.2)) | (go_at_call 61; exact Calls.regrown_of (manscale_b _ _ _ _ h1 h2 h3 h4)) | (go_at_call 47; exact Calls.regrown_of (rounddiv_b _ _ _)) | (go_at_call 51; exact Calls.regrown_of (saturate_b _ _)))) | quiet_step ((first | (go_at_call 60; exact Calls.regrown_of (expscale_b _ _ e4.1 e4.2)) | (go_at_call 61; exact Calls.regrown_of (manscale_b _ _ _ _ h1 h2 h3 h4)) | (go_at_call 47; exact Calls.regrown_of (rounddiv_b _ _ _)) | (go_at_call 51; exact Calls.regrown_of (saturate_b _ _)))))
    refine wpQuiet_nil ?_
    intro W hw'
    have B := below_regrown' hw'
    clear hw' k_c0 k_c1 k_c2 k_q0 k_q1 k_q2
    replace BB := bon BB B
    replace c0 := cell_below B c0
    replace c1 := cell_below B c1
    replace c2 := cell_below B c2
    replace q0 := cell_below B q0
    replace q1 := cell_below B q1
    replace q2 := cell_below B q2
    go_wp2
    all_goals go_ret
    all_goals exact ⟨ret_int (by rw [HV.out, HD.out]; simp [*]), BB⟩
  · have k1 := pw_pos E
    have k2 : pw E ≤ 2147483648 := pw_le _ 31 (by omega)
    have m1 := mul_bd (pw m + M) (65536 * pw E) 2048 140737488355328 (by omega) (by omega) (by omega) (by omega)
    have i5 : IntKind.i64.wrap ((pw m + M) * (65536 * pw E)) = (pw m + M) * (65536 * pw E) := IntWalk.i64_in _ (by omega)
    have bs := sat_bd (rda ((pw m + M) * (65536 * pw E)) (pw (biasv e + m)))
    have HD : Hid (decm e m E M = sat (rda ((pw m + M) * (65536 * pw E)) (pw (biasv e + m)))) := Lib.hid (by unfold decm decu; rw [if_neg e1, if_neg (by omega), if_pos e2, Int.add_comm M])
    have t1 : (E == pw e - 1) = false := by simpa using e1
    have t0 : (E != 0) = true := by simp; omega
    have e3 : 1 < E := by omega
    have e4 : 0 ≤ E ∧ E ≤ 40 := by omega
    clear e1 e2
    go_enter Try.func48, Try.ntmps48
    go_wp2_with (go_at_call 58; refine (hs _ h1 h2 h3 h4 h5 h6).mono ?_; rintro _ _ ⟨rfl, B⟩; replace BB := bon BB B; replace c0 := cell_below B c0; replace c1 := cell_below B c1; replace c2 := cell_below B c2)
    obtain ⟨B, q0, q1, q2, BB⟩ := box3_on BB (.bool G) (.int .i64 E) (.int .i64 M) 66
    replace c0 := cell_below B c0; replace c1 := cell_below B c1; replace c2 := cell_below B c2
    have k_c0 := cell_regrown c0
    have k_c1 := cell_regrown c1
    have k_c2 := cell_regrown c2
    have k_q0 := cell_regrown q0
    have k_q1 := cell_regrown q1
    have k_q2 := cell_regrown q2
    refine wp_region_quiet_below (by kernel_rfl) (by kernel_rfl) ?_
    repeat (first | go_big_quiet_step ((first | (go_at_call 59; exact Calls.regrown_of (special_b _ _ _ _ h1 h2)))) | quiet_step ((first | (go_at_call 59; exact Calls.regrown_of (special_b _ _ _ _ h1 h2)))))
    refine wpQuiet_nil ?_
    intro W hw'
    have B := below_regrown' hw'
    clear hw' k_c0 k_c1 k_c2 k_q0 k_q1 k_q2
    replace BB := bon BB B
    replace c0 := cell_below B c0
    replace c1 := cell_below B c1
    replace c2 := cell_below B c2
    replace q0 := cell_below B q0
    replace q1 := cell_below B q1
    replace q2 := cell_below B q2
    go_wp2
    have k_c0 := cell_regrown c0
    have k_c1 := cell_regrown c1
    have k_c2 := cell_regrown c2
    have k_q0 := cell_regrown q0
    have k_q1 := cell_regrown q1
    have k_q2 := cell_regrown q2
    refine wp_region_quiet_below (by kernel_rfl) (by kernel_rfl) ?_
    repeat (first | go_big_quiet_step ((first | (go_at_call 59; exact Calls.regrown_of (special_b _ _ _ _ h1 h2)))) | quiet_step ((first | (go_at_call 59; exact Calls.regrown_of (special_b _ _ _ _ h1 h2)))))
    refine wpQuiet_nil ?_
    intro W hw'
    have B := below_regrown' hw'
    clear hw' k_c0 k_c1 k_c2 k_q0 k_q1 k_q2
    replace BB := bon BB B
    replace c0 := cell_below B c0
    replace c1 := cell_below B c1
    replace c2 := cell_below B c2
    replace q0 := cell_below B q0
    replace q1 := cell_below B q1
    replace q2 := cell_below B q2
    go_wp2
    have k_c0 := cell_regrown c0
    have k_c1 := cell_regrown c1
    have k_c2 := cell_regrown c2
    have k_q0 := cell_regrown q0
    have k_q1 := cell_regrown q1
    have k_q2 := cell_regrown q2
    refine wp_region_quiet_below (by kernel_rfl) (by kernel_rfl) ?_
    repeat (first | go_big_quiet_step ((first | (go_at_call 60; exact Calls.regrown_of (expscale_b _ _ e4.1 e4.2)) | (go_at_call 61; exact Calls.regrown_of (manscale_b _ _ _ _ h1 h2 h3 h4)) | (go_at_call 47; exact Calls.regrown_of (rounddiv_b _ _ _)) | (go_at_call 51; exact Calls.regrown_of (saturate_b _ _)))) | quiet_step ((first | (go_at_call 60; exact Calls.regrown_of (expscale_b _ _ e4.1 e4.2)) | (go_at_call 61; exact Calls.regrown_of (manscale_b _ _ _ _ h1 h2 h3 h4)) | (go_at_call 47; exact Calls.regrown_of (rounddiv_b _ _ _)) | (go_at_call 51; exact Calls.regrown_of (saturate_b _ _)))))
    refine wpQuiet_nil ?_
    intro W hw'
    have B := below_regrown' hw'
    clear hw' k_c0 k_c1 k_c2 k_q0 k_q1 k_q2
    replace BB := bon BB B
    replace c0 := cell_below B c0
    replace c1 := cell_below B c1
    replace c2 := cell_below B c2
    replace q0 := cell_below B q0
    replace q1 := cell_below B q1
    replace q2 := cell_below B q2
    go_wp2
    all_goals go_ret
    all_goals exact ⟨ret_int (by rw [HV.out, HD.out]; simp [*]), BB⟩

/-! ### Encode -/
theorem encm_bd (e m x : Int) (h1 : 2 ≤ e) (h2 : e ≤ 5) (h3 : 1 ≤ m) (h4 : m ≤ 10) (h5 : 0 ≤ x) (h6 : x < 536870912) : 0 ≤ encm e m x ∧ encm e m x < pw (e + m) := by
  have b := biasv_bd h1 h2
  have bk := exq_bd e x h1 h2 h5 h6
  have p1 := pw_pos (biasv e + m)
  have p3 := pw_pos (exq e x)
  have p5 := pw_pos m
  have p7 : 4 ≤ pw e := pw_le 2 e (by omega)
  have q := pw_add e m (by omega) (by omega)
  have m1 := mul_bd x (pw (biasv e + m)) x (pw (biasv e + m)) (by omega) (by omega) (by omega) (by omega)
  have m2 := mul_bd (exq e x - 1) (pw m) (exq e x - 1) (pw m) (by omega) (by omega) (by omega) (by omega)
  have m3 : (pw e - 1) * pw m = pw e * pw m - pw m := by rw [Int.sub_mul]; omega
  have m4 := mul_bd (pw e - 1) (pw m) (pw e - 1) (pw m) (by omega) (by omega) (by omega) (by omega)
  have m5 : 3 * pw m ≤ (pw e - 1) * pw m := Int.mul_le_mul_of_nonneg_right (by omega) (by omega)
  have d1 := dte_bd (x * pw (biasv e + m)) (65536 * pw (exq e x)) (by omega) (by omega)
  unfold encm; split <;> omega

def encv (e m : Int) (s : Bool) (x : Int) : Int :=
  if 0 ≤ x then encm e m (sat x) else if s then (if encm e m (-sat x) = 0 then 0 else pw (e + m) + encm e m (-sat x)) else 0

theorem sat_neg_iff (x : Int) : (sat x < 0 ↔ x < 0) := by unfold sat; grind

theorem encv_bd (e m x : Int) (s : Bool) (h1 : 2 ≤ e) (h2 : e ≤ 5) (h3 : 1 ≤ m) (h4 : m ≤ 10) : 0 ≤ encv e m s x ∧ encv e m s x < pw (e + m + sbit s) := by
  have bs := sat_bd x
  have bn := sat_neg_iff x
  have p := pw_pos (e + m)
  have q : pw (e + m) ≤ pw (e + m + sbit s) := pw_le _ _ (by have := sbit_bd s; omega)
  unfold encv
  split
  · have := encm_bd e m (sat x) h1 h2 h3 h4 (by omega) (by omega); omega
  · have := encm_bd e m (-sat x) h1 h2 h3 h4 (by omega) (by omega)
    cases s with
    | false => simp; omega
    | true =>
      have : pw (e + m + sbit true) = 2 * pw (e + m) := pw_succ (e + m) (by omega)
      simp only [if_true]; split <;> omega

end Go.Proofs.Ytfakmeimideoaaa
