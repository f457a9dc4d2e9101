/- The small functions of package sampler; Valid. -/
import Derived.Test.YtoipmldbjciinaaSMath
import Derived.Test.YtoipmldbjciinaaSmp
import Derived.Test.YtoipmldbjciinaaFixedB
import Derived.Test.YtoipmldbjciinaaVec
import Derived.Test.YtoipmldbjciinaaA2
namespace Go.Proofs.Ytoipmldbjciinaa
open Go.RowKit Go.Sort

theorem smpT : RowT Try.prog 27 12 := ⟨⟨_, Try.underlying27, rfl⟩, by kernel_rfl⟩

theorem bordT : RowT Try.prog 25 4 := ⟨⟨_, Try.underlying25, rfl⟩, by kernel_rfl⟩

theorem isFilter_q (f : Int) (w : World) : Calls Try.prog 31 #[.int .i64 f] w fun e w' => e = .returned (.bool (decide (f = 1 ∨ f = 2))) ∧ w = w' := by
  rcases (show f = 1 ∨ f = 2 ∨ (f ≠ 1 ∧ f ≠ 2) by omega) with rfl | rfl | ⟨h1, h2⟩
  · go_enter Try.func31, Try.ntmps31
    go_wp2
    go_ret
    exact ⟨rfl, rfl⟩
  · go_enter Try.func31, Try.ntmps31
    go_wp2
    go_ret
    exact ⟨rfl, rfl⟩
  · have t1 : (f == 1) = false := by simp [h1]
    have t2 : (f == 2) = false := by simp [h2]
    rw [decide_eq_false (by omega)]
    clear h1 h2
    go_enter Try.func31, Try.ntmps31
    go_wp2
    go_ret
    exact ⟨rfl, rfl⟩

theorem and_16 (x : Int) : bits .and .i64 x 65535 = x % 65536 := by
  have h := and_pw x 16 (by omega) (by omega)
  exact h

theorem whole_q (x : Int) (w : World) : Calls Try.prog 33 #[.int .i64 x] w fun e w' => e = .returned (.int .i64 (x / 65536)) ∧ w = w' := by
  go_enter Try.func33, Try.ntmps33
  go_wp2
  go_ret
  exact ⟨rfl, rfl⟩

theorem fraction_q (x : Int) (w : World) : Calls Try.prog 35 #[.int .i64 x] w fun e w' => e = .returned (.int .i64 (x % 65536)) ∧ w = w' := by
  have e := and_16 x
  go_enter Try.func35, Try.ntmps35
  go_wp2
  go_ret
  exact ⟨rfl, rfl⟩

set_option maxRecDepth 100000 in
set_option maxHeartbeats 1000000 in
theorem sval_0 (s : Nat → Int) (w : World)  (h0 : ¬ (1 ≤ s 0 ∧ s 0 ≤ 4)) : Calls Try.prog 15 #[.agg (smps s)] w fun e w' => e = .returned (.bool false) ∧ Below w.heap.size w w' := by
  have BB := box_below w (smps s) 27
  have S0 := smp_box w s 27
  have c0 := fun W => of_q (valid_q (s 0) W)
  rw [show avalid (s 0) = false from decide_eq_false h0] at c0
  have C0 := Lib.hid c0
  clear c0
  clear h0
  go_enter Try.func15, Try.ntmps15
  go_wp2
  have k_S0 := smp_regrown S0
  refine wp_region_quiet_below (by kernel_rfl) (by kernel_rfl) ?_
  repeat (first | (go_big_quiet_want; refine quiet_sload _ _ rfl smpT (fun W hW => smp_class S0 hW) rfl ?_; go_simp; go_big_quiet_on) | (go_big_quiet_want; refine quiet_bload _ _ rfl bordT (fun W hW => smp_class S0 hW) rfl ?_; go_simp; go_big_quiet_on) | go_big_quiet_step ((first | (go_at_call 30; with_reducible exact Calls.regrown_of (C0.out _)))) | quiet_step ((first | (go_at_call 30; with_reducible exact Calls.regrown_of (C0.out _)))))
  refine wpQuiet_nil ?_
  intro W hw'
  have B := below_regrown' hw'
  clear hw' k_S0
  replace BB := bon BB B
  replace S0 := smp_below B S0
  go_wp2
  go_ret
  exact ⟨rfl, BB⟩

set_option maxRecDepth 100000 in
set_option maxHeartbeats 1000000 in
theorem sval_1 (s : Nat → Int) (w : World) (h0 : 1 ≤ s 0 ∧ s 0 ≤ 4) (h1 : ¬ (1 ≤ s 1 ∧ s 1 ≤ 4)) : Calls Try.prog 15 #[.agg (smps s)] w fun e w' => e = .returned (.bool false) ∧ Below w.heap.size w w' := by
  have BB := box_below w (smps s) 27
  have S0 := smp_box w s 27
  have c0 := fun W => of_q (valid_q (s 0) W)
  rw [show avalid (s 0) = true from decide_eq_true h0] at c0
  have C0 := Lib.hid c0
  clear c0
  have c1 := fun W => of_q (valid_q (s 1) W)
  rw [show avalid (s 1) = false from decide_eq_false h1] at c1
  have C1 := Lib.hid c1
  clear c1
  clear h0 h1
  go_enter Try.func15, Try.ntmps15
  go_wp2
  have k_S0 := smp_regrown S0
  refine wp_region_quiet_below (by kernel_rfl) (by kernel_rfl) ?_
  repeat (first | (go_big_quiet_want; refine quiet_sload _ _ rfl smpT (fun W hW => smp_class S0 hW) rfl ?_; go_simp; go_big_quiet_on) | (go_big_quiet_want; refine quiet_bload _ _ rfl bordT (fun W hW => smp_class S0 hW) rfl ?_; go_simp; go_big_quiet_on) | go_big_quiet_step ((first | (go_at_call 30; with_reducible exact Calls.regrown_of (C0.out _)) | (go_at_call 30; with_reducible exact Calls.regrown_of (C1.out _)))) | quiet_step ((first | (go_at_call 30; with_reducible exact Calls.regrown_of (C0.out _)) | (go_at_call 30; with_reducible exact Calls.regrown_of (C1.out _)))))
  refine wpQuiet_nil ?_
  intro W hw'
  have B := below_regrown' hw'
  clear hw' k_S0
  replace BB := bon BB B
  replace S0 := smp_below B S0
  go_wp2
  go_ret
  exact ⟨rfl, BB⟩

set_option maxRecDepth 100000 in
set_option maxHeartbeats 1000000 in
theorem sval_2 (s : Nat → Int) (w : World) (h0 : 1 ≤ s 0 ∧ s 0 ≤ 4) (h1 : 1 ≤ s 1 ∧ s 1 ≤ 4) (h2 : ¬ (s 2 = 1 ∨ s 2 = 2)) : Calls Try.prog 15 #[.agg (smps s)] w fun e w' => e = .returned (.bool false) ∧ Below w.heap.size w w' := by
  have BB := box_below w (smps s) 27
  have S0 := smp_box w s 27
  have c0 := fun W => of_q (valid_q (s 0) W)
  rw [show avalid (s 0) = true from decide_eq_true h0] at c0
  have C0 := Lib.hid c0
  clear c0
  have c1 := fun W => of_q (valid_q (s 1) W)
  rw [show avalid (s 1) = true from decide_eq_true h1] at c1
  have C1 := Lib.hid c1
  clear c1
  have c2 := fun W => of_q (isFilter_q (s 2) W)
  rw [decide_eq_false h2] at c2
  have C2 := Lib.hid c2
  clear c2
  clear h0 h1 h2
  go_enter Try.func15, Try.ntmps15
  go_wp2
  have k_S0 := smp_regrown S0
  refine wp_region_quiet_below (by kernel_rfl) (by kernel_rfl) ?_
  repeat (first | (go_big_quiet_want; refine quiet_sload _ _ rfl smpT (fun W hW => smp_class S0 hW) rfl ?_; go_simp; go_big_quiet_on) | (go_big_quiet_want; refine quiet_bload _ _ rfl bordT (fun W hW => smp_class S0 hW) rfl ?_; go_simp; go_big_quiet_on) | go_big_quiet_step ((first | (go_at_call 30; with_reducible exact Calls.regrown_of (C0.out _)) | (go_at_call 30; with_reducible exact Calls.regrown_of (C1.out _)) | (go_at_call 31; with_reducible exact Calls.regrown_of (C2.out _)))) | quiet_step ((first | (go_at_call 30; with_reducible exact Calls.regrown_of (C0.out _)) | (go_at_call 30; with_reducible exact Calls.regrown_of (C1.out _)) | (go_at_call 31; with_reducible exact Calls.regrown_of (C2.out _)))))
  refine wpQuiet_nil ?_
  intro W hw'
  have B := below_regrown' hw'
  clear hw' k_S0
  replace BB := bon BB B
  replace S0 := smp_below B S0
  go_wp2
  go_ret
  exact ⟨rfl, BB⟩

set_option maxRecDepth 100000 in
set_option maxHeartbeats 1000000 in
theorem sval_3 (s : Nat → Int) (w : World) (h0 : 1 ≤ s 0 ∧ s 0 ≤ 4) (h1 : 1 ≤ s 1 ∧ s 1 ≤ 4) (h2 : s 2 = 1 ∨ s 2 = 2) (h3 : ¬ (s 3 = 1 ∨ s 3 = 2)) : Calls Try.prog 15 #[.agg (smps s)] w fun e w' => e = .returned (.bool false) ∧ Below w.heap.size w w' := by
  have BB := box_below w (smps s) 27
  have S0 := smp_box w s 27
  have c0 := fun W => of_q (valid_q (s 0) W)
  rw [show avalid (s 0) = true from decide_eq_true h0] at c0
  have C0 := Lib.hid c0
  clear c0
  have c1 := fun W => of_q (valid_q (s 1) W)
  rw [show avalid (s 1) = true from decide_eq_true h1] at c1
  have C1 := Lib.hid c1
  clear c1
  have c2 := fun W => of_q (isFilter_q (s 2) W)
  rw [decide_eq_true h2] at c2
  have C2 := Lib.hid c2
  clear c2
  have c3 := fun W => of_q (isFilter_q (s 3) W)
  rw [decide_eq_false h3] at c3
  have C3 := Lib.hid c3
  clear c3
  clear h0 h1 h2 h3
  go_enter Try.func15, Try.ntmps15
  go_wp2
  have k_S0 := smp_regrown S0
  refine wp_region_quiet_below (by kernel_rfl) (by kernel_rfl) ?_
  repeat (first | (go_big_quiet_want; refine quiet_sload _ _ rfl smpT (fun W hW => smp_class S0 hW) rfl ?_; go_simp; go_big_quiet_on) | (go_big_quiet_want; refine quiet_bload _ _ rfl bordT (fun W hW => smp_class S0 hW) rfl ?_; go_simp; go_big_quiet_on) | go_big_quiet_step ((first | (go_at_call 30; with_reducible exact Calls.regrown_of (C0.out _)) | (go_at_call 30; with_reducible exact Calls.regrown_of (C1.out _)) | (go_at_call 31; with_reducible exact Calls.regrown_of (C2.out _)) | (go_at_call 31; with_reducible exact Calls.regrown_of (C3.out _)))) | quiet_step ((first | (go_at_call 30; with_reducible exact Calls.regrown_of (C0.out _)) | (go_at_call 30; with_reducible exact Calls.regrown_of (C1.out _)) | (go_at_call 31; with_reducible exact Calls.regrown_of (C2.out _)) | (go_at_call 31; with_reducible exact Calls.regrown_of (C3.out _)))))
  refine wpQuiet_nil ?_
  intro W hw'
  have B := below_regrown' hw'
  clear hw' k_S0
  replace BB := bon BB B
  replace S0 := smp_below B S0
  go_wp2
  go_ret
  exact ⟨rfl, BB⟩

set_option maxRecDepth 100000 in
set_option maxHeartbeats 1000000 in
theorem sval_4 (s : Nat → Int) (w : World) (h0 : 1 ≤ s 0 ∧ s 0 ≤ 4) (h1 : 1 ≤ s 1 ∧ s 1 ≤ 4) (h2 : s 2 = 1 ∨ s 2 = 2) (h3 : s 3 = 1 ∨ s 3 = 2) (h4 : ¬ (s 4 = 1 ∨ s 4 = 2)) : Calls Try.prog 15 #[.agg (smps s)] w fun e w' => e = .returned (.bool false) ∧ Below w.heap.size w w' := by
  have BB := box_below w (smps s) 27
  have S0 := smp_box w s 27
  have c0 := fun W => of_q (valid_q (s 0) W)
  rw [show avalid (s 0) = true from decide_eq_true h0] at c0
  have C0 := Lib.hid c0
  clear c0
  have c1 := fun W => of_q (valid_q (s 1) W)
  rw [show avalid (s 1) = true from decide_eq_true h1] at c1
  have C1 := Lib.hid c1
  clear c1
  have c2 := fun W => of_q (isFilter_q (s 2) W)
  rw [decide_eq_true h2] at c2
  have C2 := Lib.hid c2
  clear c2
  have c3 := fun W => of_q (isFilter_q (s 3) W)
  rw [decide_eq_true h3] at c3
  have C3 := Lib.hid c3
  clear c3
  have c4 := fun W => of_q (isFilter_q (s 4) W)
  rw [decide_eq_false h4] at c4
  have C4 := Lib.hid c4
  clear c4
  clear h0 h1 h2 h3 h4
  go_enter Try.func15, Try.ntmps15
  go_wp2
  have k_S0 := smp_regrown S0
  refine wp_region_quiet_below (by kernel_rfl) (by kernel_rfl) ?_
  repeat (first | (go_big_quiet_want; refine quiet_sload _ _ rfl smpT (fun W hW => smp_class S0 hW) rfl ?_; go_simp; go_big_quiet_on) | (go_big_quiet_want; refine quiet_bload _ _ rfl bordT (fun W hW => smp_class S0 hW) rfl ?_; go_simp; go_big_quiet_on) | go_big_quiet_step ((first | (go_at_call 30; with_reducible exact Calls.regrown_of (C0.out _)) | (go_at_call 30; with_reducible exact Calls.regrown_of (C1.out _)) | (go_at_call 31; with_reducible exact Calls.regrown_of (C2.out _)) | (go_at_call 31; with_reducible exact Calls.regrown_of (C3.out _)) | (go_at_call 31; with_reducible exact Calls.regrown_of (C4.out _)))) | quiet_step ((first | (go_at_call 30; with_reducible exact Calls.regrown_of (C0.out _)) | (go_at_call 30; with_reducible exact Calls.regrown_of (C1.out _)) | (go_at_call 31; with_reducible exact Calls.regrown_of (C2.out _)) | (go_at_call 31; with_reducible exact Calls.regrown_of (C3.out _)) | (go_at_call 31; with_reducible exact Calls.regrown_of (C4.out _)))))
  refine wpQuiet_nil ?_
  intro W hw'
  have B := below_regrown' hw'
  clear hw' k_S0
  replace BB := bon BB B
  replace S0 := smp_below B S0
  go_wp2
  go_ret
  exact ⟨rfl, BB⟩

set_option maxRecDepth 100000 in
set_option maxHeartbeats 1000000 in
theorem sval_5 (s : Nat → Int) (w : World) (h0 : 1 ≤ s 0 ∧ s 0 ≤ 4) (h1 : 1 ≤ s 1 ∧ s 1 ≤ 4) (h2 : s 2 = 1 ∨ s 2 = 2) (h3 : s 3 = 1 ∨ s 3 = 2) (h4 : s 4 = 1 ∨ s 4 = 2) (h5 : ¬ (0 ≤ s 5 ∧ s 5 ≤ 65536)) : Calls Try.prog 15 #[.agg (smps s)] w fun e w' => e = .returned (.bool false) ∧ Below w.heap.size w w' := by
  have BB := box_below w (smps s) 27
  have S0 := smp_box w s 27
  have c0 := fun W => of_q (valid_q (s 0) W)
  rw [show avalid (s 0) = true from decide_eq_true h0] at c0
  have C0 := Lib.hid c0
  clear c0
  have c1 := fun W => of_q (valid_q (s 1) W)
  rw [show avalid (s 1) = true from decide_eq_true h1] at c1
  have C1 := Lib.hid c1
  clear c1
  have c2 := fun W => of_q (isFilter_q (s 2) W)
  rw [decide_eq_true h2] at c2
  have C2 := Lib.hid c2
  clear c2
  have c3 := fun W => of_q (isFilter_q (s 3) W)
  rw [decide_eq_true h3] at c3
  have C3 := Lib.hid c3
  clear c3
  have c4 := fun W => of_q (isFilter_q (s 4) W)
  rw [decide_eq_true h4] at c4
  have C4 := Lib.hid c4
  clear c4
  have c5 := fun W => clamp4 (s 5) (s 6) (s 7) (s 8) W
  obtain ⟨z5, g5⟩ : ∃ z, clampv (s 5) 0 65536 = z := ⟨_, rfl⟩
  have t5 : (s 5 == z5) = false := by
    have hr := clamp_one (s 5)
    rw [g5] at hr
    simp
    omega
  rw [g5] at c5
  clear g5
  obtain ⟨z6, g6⟩ : ∃ z, clampv (s 6) 0 65536 = z := ⟨_, rfl⟩
  rw [g6] at c5
  clear g6
  obtain ⟨z7, g7⟩ : ∃ z, clampv (s 7) 0 65536 = z := ⟨_, rfl⟩
  rw [g7] at c5
  clear g7
  obtain ⟨z8, g8⟩ : ∃ z, clampv (s 8) 0 65536 = z := ⟨_, rfl⟩
  rw [g8] at c5
  clear g8
  have C5 := Lib.hid c5
  clear c5
  clear h0 h1 h2 h3 h4 h5
  go_enter Try.func15, Try.ntmps15
  go_wp2
  have k_S0 := smp_regrown S0
  refine wp_region_quiet_below (by kernel_rfl) (by kernel_rfl) ?_
  repeat (first | (go_big_quiet_want; refine quiet_sload _ _ rfl smpT (fun W hW => smp_class S0 hW) rfl ?_; go_simp; go_big_quiet_on) | (go_big_quiet_want; refine quiet_bload _ _ rfl bordT (fun W hW => smp_class S0 hW) rfl ?_; go_simp; go_big_quiet_on) | go_big_quiet_step ((first | (go_at_call 30; with_reducible exact Calls.regrown_of (C0.out _)) | (go_at_call 30; with_reducible exact Calls.regrown_of (C1.out _)) | (go_at_call 31; with_reducible exact Calls.regrown_of (C2.out _)) | (go_at_call 31; with_reducible exact Calls.regrown_of (C3.out _)) | (go_at_call 31; with_reducible exact Calls.regrown_of (C4.out _)) | (go_at_call 32; exact Calls.regrown_of (C5.out _)))) | quiet_step ((first | (go_at_call 30; with_reducible exact Calls.regrown_of (C0.out _)) | (go_at_call 30; with_reducible exact Calls.regrown_of (C1.out _)) | (go_at_call 31; with_reducible exact Calls.regrown_of (C2.out _)) | (go_at_call 31; with_reducible exact Calls.regrown_of (C3.out _)) | (go_at_call 31; with_reducible exact Calls.regrown_of (C4.out _)) | (go_at_call 32; exact Calls.regrown_of (C5.out _)))))
  refine wpQuiet_nil ?_
  intro W hw'
  have B := below_regrown' hw'
  clear hw' k_S0
  replace BB := bon BB B
  replace S0 := smp_below B S0
  go_wp2
  go_ret
  exact ⟨rfl, BB⟩

set_option maxRecDepth 100000 in
set_option maxHeartbeats 1000000 in
theorem sval_6 (s : Nat → Int) (w : World) (h0 : 1 ≤ s 0 ∧ s 0 ≤ 4) (h1 : 1 ≤ s 1 ∧ s 1 ≤ 4) (h2 : s 2 = 1 ∨ s 2 = 2) (h3 : s 3 = 1 ∨ s 3 = 2) (h4 : s 4 = 1 ∨ s 4 = 2) (h5 : 0 ≤ s 5 ∧ s 5 ≤ 65536) (h6 : ¬ (0 ≤ s 6 ∧ s 6 ≤ 65536)) : Calls Try.prog 15 #[.agg (smps s)] w fun e w' => e = .returned (.bool false) ∧ Below w.heap.size w w' := by
  have BB := box_below w (smps s) 27
  have S0 := smp_box w s 27
  have c0 := fun W => of_q (valid_q (s 0) W)
  rw [show avalid (s 0) = true from decide_eq_true h0] at c0
  have C0 := Lib.hid c0
  clear c0
  have c1 := fun W => of_q (valid_q (s 1) W)
  rw [show avalid (s 1) = true from decide_eq_true h1] at c1
  have C1 := Lib.hid c1
  clear c1
  have c2 := fun W => of_q (isFilter_q (s 2) W)
  rw [decide_eq_true h2] at c2
  have C2 := Lib.hid c2
  clear c2
  have c3 := fun W => of_q (isFilter_q (s 3) W)
  rw [decide_eq_true h3] at c3
  have C3 := Lib.hid c3
  clear c3
  have c4 := fun W => of_q (isFilter_q (s 4) W)
  rw [decide_eq_true h4] at c4
  have C4 := Lib.hid c4
  clear c4
  have c5 := fun W => clamp4 (s 5) (s 6) (s 7) (s 8) W
  have e5 : clampv (s 5) 0 65536 = s 5 := by unfold clampv; rw [if_neg (by omega), if_neg (by omega)]
  rw [e5] at c5
  clear e5
  obtain ⟨z6, g6⟩ : ∃ z, clampv (s 6) 0 65536 = z := ⟨_, rfl⟩
  have t6 : (s 6 == z6) = false := by
    have hr := clamp_one (s 6)
    rw [g6] at hr
    simp
    omega
  rw [g6] at c5
  clear g6
  obtain ⟨z7, g7⟩ : ∃ z, clampv (s 7) 0 65536 = z := ⟨_, rfl⟩
  rw [g7] at c5
  clear g7
  obtain ⟨z8, g8⟩ : ∃ z, clampv (s 8) 0 65536 = z := ⟨_, rfl⟩
  rw [g8] at c5
  clear g8
  have C5 := Lib.hid c5
  clear c5
  clear h0 h1 h2 h3 h4 h5 h6
  go_enter Try.func15, Try.ntmps15
  go_wp2
  have k_S0 := smp_regrown S0
  refine wp_region_quiet_below (by kernel_rfl) (by kernel_rfl) ?_
  repeat (first | (go_big_quiet_want; refine quiet_sload _ _ rfl smpT (fun W hW => smp_class S0 hW) rfl ?_; go_simp; go_big_quiet_on) | (go_big_quiet_want; refine quiet_bload _ _ rfl bordT (fun W hW => smp_class S0 hW) rfl ?_; go_simp; go_big_quiet_on) | go_big_quiet_step ((first | (go_at_call 30; with_reducible exact Calls.regrown_of (C0.out _)) | (go_at_call 30; with_reducible exact Calls.regrown_of (C1.out _)) | (go_at_call 31; with_reducible exact Calls.regrown_of (C2.out _)) | (go_at_call 31; with_reducible exact Calls.regrown_of (C3.out _)) | (go_at_call 31; with_reducible exact Calls.regrown_of (C4.out _)) | (go_at_call 32; exact Calls.regrown_of (C5.out _)))) | quiet_step ((first | (go_at_call 30; with_reducible exact Calls.regrown_of (C0.out _)) | (go_at_call 30; with_reducible exact Calls.regrown_of (C1.out _)) | (go_at_call 31; with_reducible exact Calls.regrown_of (C2.out _)) | (go_at_call 31; with_reducible exact Calls.regrown_of (C3.out _)) | (go_at_call 31; with_reducible exact Calls.regrown_of (C4.out _)) | (go_at_call 32; exact Calls.regrown_of (C5.out _)))))
  refine wpQuiet_nil ?_
  intro W hw'
  have B := below_regrown' hw'
  clear hw' k_S0
  replace BB := bon BB B
  replace S0 := smp_below B S0
  go_wp2
  go_ret
  exact ⟨rfl, BB⟩

set_option maxRecDepth 100000 in
set_option maxHeartbeats 1000000 in
theorem sval_7 (s : Nat → Int) (w : World) (h0 : 1 ≤ s 0 ∧ s 0 ≤ 4) (h1 : 1 ≤ s 1 ∧ s 1 ≤ 4) (h2 : s 2 = 1 ∨ s 2 = 2) (h3 : s 3 = 1 ∨ s 3 = 2) (h4 : s 4 = 1 ∨ s 4 = 2) (h5 : 0 ≤ s 5 ∧ s 5 ≤ 65536) (h6 : 0 ≤ s 6 ∧ s 6 ≤ 65536) (h7 : ¬ (0 ≤ s 7 ∧ s 7 ≤ 65536)) : Calls Try.prog 15 #[.agg (smps s)] w fun e w' => e = .returned (.bool false) ∧ Below w.heap.size w w' := by
  have BB := box_below w (smps s) 27
  have S0 := smp_box w s 27
  have c0 := fun W => of_q (valid_q (s 0) W)
  rw [show avalid (s 0) = true from decide_eq_true h0] at c0
  have C0 := Lib.hid c0
  clear c0
  have c1 := fun W => of_q (valid_q (s 1) W)
  rw [show avalid (s 1) = true from decide_eq_true h1] at c1
  have C1 := Lib.hid c1
  clear c1
  have c2 := fun W => of_q (isFilter_q (s 2) W)
  rw [decide_eq_true h2] at c2
  have C2 := Lib.hid c2
  clear c2
  have c3 := fun W => of_q (isFilter_q (s 3) W)
  rw [decide_eq_true h3] at c3
  have C3 := Lib.hid c3
  clear c3
  have c4 := fun W => of_q (isFilter_q (s 4) W)
  rw [decide_eq_true h4] at c4
  have C4 := Lib.hid c4
  clear c4
  have c5 := fun W => clamp4 (s 5) (s 6) (s 7) (s 8) W
  have e5 : clampv (s 5) 0 65536 = s 5 := by unfold clampv; rw [if_neg (by omega), if_neg (by omega)]
  rw [e5] at c5
  clear e5
  have e6 : clampv (s 6) 0 65536 = s 6 := by unfold clampv; rw [if_neg (by omega), if_neg (by omega)]
  rw [e6] at c5
  clear e6
  obtain ⟨z7, g7⟩ : ∃ z, clampv (s 7) 0 65536 = z := ⟨_, rfl⟩
  have t7 : (s 7 == z7) = false := by
    have hr := clamp_one (s 7)
    rw [g7] at hr
    simp
    omega
  rw [g7] at c5
  clear g7
  obtain ⟨z8, g8⟩ : ∃ z, clampv (s 8) 0 65536 = z := ⟨_, rfl⟩
  rw [g8] at c5
  clear g8
  have C5 := Lib.hid c5
  clear c5
  clear h0 h1 h2 h3 h4 h5 h6 h7
  go_enter Try.func15, Try.ntmps15
  go_wp2
  have k_S0 := smp_regrown S0
  refine wp_region_quiet_below (by kernel_rfl) (by kernel_rfl) ?_
  repeat (first | (go_big_quiet_want; refine quiet_sload _ _ rfl smpT (fun W hW => smp_class S0 hW) rfl ?_; go_simp; go_big_quiet_on) | (go_big_quiet_want; refine quiet_bload _ _ rfl bordT (fun W hW => smp_class S0 hW) rfl ?_; go_simp; go_big_quiet_on) | go_big_quiet_step ((first | (go_at_call 30; with_reducible exact Calls.regrown_of (C0.out _)) | (go_at_call 30; with_reducible exact Calls.regrown_of (C1.out _)) | (go_at_call 31; with_reducible exact Calls.regrown_of (C2.out _)) | (go_at_call 31; with_reducible exact Calls.regrown_of (C3.out _)) | (go_at_call 31; with_reducible exact Calls.regrown_of (C4.out _)) | (go_at_call 32; exact Calls.regrown_of (C5.out _)))) | quiet_step ((first | (go_at_call 30; with_reducible exact Calls.regrown_of (C0.out _)) | (go_at_call 30; with_reducible exact Calls.regrown_of (C1.out _)) | (go_at_call 31; with_reducible exact Calls.regrown_of (C2.out _)) | (go_at_call 31; with_reducible exact Calls.regrown_of (C3.out _)) | (go_at_call 31; with_reducible exact Calls.regrown_of (C4.out _)) | (go_at_call 32; exact Calls.regrown_of (C5.out _)))))
  refine wpQuiet_nil ?_
  intro W hw'
  have B := below_regrown' hw'
  clear hw' k_S0
  replace BB := bon BB B
  replace S0 := smp_below B S0
  go_wp2
  go_ret
  exact ⟨rfl, BB⟩

set_option maxRecDepth 100000 in
set_option maxHeartbeats 1000000 in
theorem sval_8 (s : Nat → Int) (w : World) (h0 : 1 ≤ s 0 ∧ s 0 ≤ 4) (h1 : 1 ≤ s 1 ∧ s 1 ≤ 4) (h2 : s 2 = 1 ∨ s 2 = 2) (h3 : s 3 = 1 ∨ s 3 = 2) (h4 : s 4 = 1 ∨ s 4 = 2) (h5 : 0 ≤ s 5 ∧ s 5 ≤ 65536) (h6 : 0 ≤ s 6 ∧ s 6 ≤ 65536) (h7 : 0 ≤ s 7 ∧ s 7 ≤ 65536) (h8 : ¬ (0 ≤ s 8 ∧ s 8 ≤ 65536)) : Calls Try.prog 15 #[.agg (smps s)] w fun e w' => e = .returned (.bool false) ∧ Below w.heap.size w w' := by
  have BB := box_below w (smps s) 27
  have S0 := smp_box w s 27
  have c0 := fun W => of_q (valid_q (s 0) W)
  rw [show avalid (s 0) = true from decide_eq_true h0] at c0
  have C0 := Lib.hid c0
  clear c0
  have c1 := fun W => of_q (valid_q (s 1) W)
  rw [show avalid (s 1) = true from decide_eq_true h1] at c1
  have C1 := Lib.hid c1
  clear c1
  have c2 := fun W => of_q (isFilter_q (s 2) W)
  rw [decide_eq_true h2] at c2
  have C2 := Lib.hid c2
  clear c2
  have c3 := fun W => of_q (isFilter_q (s 3) W)
  rw [decide_eq_true h3] at c3
  have C3 := Lib.hid c3
  clear c3
  have c4 := fun W => of_q (isFilter_q (s 4) W)
  rw [decide_eq_true h4] at c4
  have C4 := Lib.hid c4
  clear c4
  have c5 := fun W => clamp4 (s 5) (s 6) (s 7) (s 8) W
  have e5 : clampv (s 5) 0 65536 = s 5 := by unfold clampv; rw [if_neg (by omega), if_neg (by omega)]
  rw [e5] at c5
  clear e5
  have e6 : clampv (s 6) 0 65536 = s 6 := by unfold clampv; rw [if_neg (by omega), if_neg (by omega)]
  rw [e6] at c5
  clear e6
  have e7 : clampv (s 7) 0 65536 = s 7 := by unfold clampv; rw [if_neg (by omega), if_neg (by omega)]
  rw [e7] at c5
  clear e7
  obtain ⟨z8, g8⟩ : ∃ z, clampv (s 8) 0 65536 = z := ⟨_, rfl⟩
  have t8 : (s 8 == z8) = false := by
    have hr := clamp_one (s 8)
    rw [g8] at hr
    simp
    omega
  rw [g8] at c5
  clear g8
  have C5 := Lib.hid c5
  clear c5
  clear h0 h1 h2 h3 h4 h5 h6 h7 h8
  go_enter Try.func15, Try.ntmps15
  go_wp2
  have k_S0 := smp_regrown S0
  refine wp_region_quiet_below (by kernel_rfl) (by kernel_rfl) ?_
  repeat (first | (go_big_quiet_want; refine quiet_sload _ _ rfl smpT (fun W hW => smp_class S0 hW) rfl ?_; go_simp; go_big_quiet_on) | (go_big_quiet_want; refine quiet_bload _ _ rfl bordT (fun W hW => smp_class S0 hW) rfl ?_; go_simp; go_big_quiet_on) | go_big_quiet_step ((first | (go_at_call 30; with_reducible exact Calls.regrown_of (C0.out _)) | (go_at_call 30; with_reducible exact Calls.regrown_of (C1.out _)) | (go_at_call 31; with_reducible exact Calls.regrown_of (C2.out _)) | (go_at_call 31; with_reducible exact Calls.regrown_of (C3.out _)) | (go_at_call 31; with_reducible exact Calls.regrown_of (C4.out _)) | (go_at_call 32; exact Calls.regrown_of (C5.out _)))) | quiet_step ((first | (go_at_call 30; with_reducible exact Calls.regrown_of (C0.out _)) | (go_at_call 30; with_reducible exact Calls.regrown_of (C1.out _)) | (go_at_call 31; with_reducible exact Calls.regrown_of (C2.out _)) | (go_at_call 31; with_reducible exact Calls.regrown_of (C3.out _)) | (go_at_call 31; with_reducible exact Calls.regrown_of (C4.out _)) | (go_at_call 32; exact Calls.regrown_of (C5.out _)))))
  refine wpQuiet_nil ?_
  intro W hw'
  have B := below_regrown' hw'
  clear hw' k_S0
  replace BB := bon BB B
  replace S0 := smp_below B S0
  go_wp2
  go_ret
  exact ⟨rfl, BB⟩

set_option maxRecDepth 100000 in
set_option maxHeartbeats 1000000 in
theorem sval_9 (s : Nat → Int) (w : World) (h0 : 1 ≤ s 0 ∧ s 0 ≤ 4) (h1 : 1 ≤ s 1 ∧ s 1 ≤ 4) (h2 : s 2 = 1 ∨ s 2 = 2) (h3 : s 3 = 1 ∨ s 3 = 2) (h4 : s 4 = 1 ∨ s 4 = 2) (h5 : 0 ≤ s 5 ∧ s 5 ≤ 65536) (h6 : 0 ≤ s 6 ∧ s 6 ≤ 65536) (h7 : 0 ≤ s 7 ∧ s 7 ≤ 65536) (h8 : 0 ≤ s 8 ∧ s 8 ≤ 65536) (h9 : ¬ (-524288 ≤ s 9)) : Calls Try.prog 15 #[.agg (smps s)] w fun e w' => e = .returned (.bool false) ∧ Below w.heap.size w w' := by
  have BB := box_below w (smps s) 27
  have S0 := smp_box w s 27
  have c0 := fun W => of_q (valid_q (s 0) W)
  rw [show avalid (s 0) = true from decide_eq_true h0] at c0
  have C0 := Lib.hid c0
  clear c0
  have c1 := fun W => of_q (valid_q (s 1) W)
  rw [show avalid (s 1) = true from decide_eq_true h1] at c1
  have C1 := Lib.hid c1
  clear c1
  have c2 := fun W => of_q (isFilter_q (s 2) W)
  rw [decide_eq_true h2] at c2
  have C2 := Lib.hid c2
  clear c2
  have c3 := fun W => of_q (isFilter_q (s 3) W)
  rw [decide_eq_true h3] at c3
  have C3 := Lib.hid c3
  clear c3
  have c4 := fun W => of_q (isFilter_q (s 4) W)
  rw [decide_eq_true h4] at c4
  have C4 := Lib.hid c4
  clear c4
  have c5 := fun W => clamp4 (s 5) (s 6) (s 7) (s 8) W
  have e5 : clampv (s 5) 0 65536 = s 5 := by unfold clampv; rw [if_neg (by omega), if_neg (by omega)]
  rw [e5] at c5
  clear e5
  have e6 : clampv (s 6) 0 65536 = s 6 := by unfold clampv; rw [if_neg (by omega), if_neg (by omega)]
  rw [e6] at c5
  clear e6
  have e7 : clampv (s 7) 0 65536 = s 7 := by unfold clampv; rw [if_neg (by omega), if_neg (by omega)]
  rw [e7] at c5
  clear e7
  have e8 : clampv (s 8) 0 65536 = s 8 := by unfold clampv; rw [if_neg (by omega), if_neg (by omega)]
  rw [e8] at c5
  clear e8
  have C5 := Lib.hid c5
  clear c5
  have d9 : decide (-524288 ≤ s 9) = false := decide_eq_false h9
  clear h0 h1 h2 h3 h4 h5 h6 h7 h8 h9
  go_enter Try.func15, Try.ntmps15
  go_wp2
  have k_S0 := smp_regrown S0
  refine wp_region_quiet_below (by kernel_rfl) (by kernel_rfl) ?_
  repeat (first | (go_big_quiet_want; refine quiet_sload _ _ rfl smpT (fun W hW => smp_class S0 hW) rfl ?_; go_simp; go_big_quiet_on) | (go_big_quiet_want; refine quiet_bload _ _ rfl bordT (fun W hW => smp_class S0 hW) rfl ?_; go_simp; go_big_quiet_on) | go_big_quiet_step ((first | (go_at_call 30; with_reducible exact Calls.regrown_of (C0.out _)) | (go_at_call 30; with_reducible exact Calls.regrown_of (C1.out _)) | (go_at_call 31; with_reducible exact Calls.regrown_of (C2.out _)) | (go_at_call 31; with_reducible exact Calls.regrown_of (C3.out _)) | (go_at_call 31; with_reducible exact Calls.regrown_of (C4.out _)) | (go_at_call 32; exact Calls.regrown_of (C5.out _)))) | quiet_step ((first | (go_at_call 30; with_reducible exact Calls.regrown_of (C0.out _)) | (go_at_call 30; with_reducible exact Calls.regrown_of (C1.out _)) | (go_at_call 31; with_reducible exact Calls.regrown_of (C2.out _)) | (go_at_call 31; with_reducible exact Calls.regrown_of (C3.out _)) | (go_at_call 31; with_reducible exact Calls.regrown_of (C4.out _)) | (go_at_call 32; exact Calls.regrown_of (C5.out _)))))
  refine wpQuiet_nil ?_
  intro W hw'
  have B := below_regrown' hw'
  clear hw' k_S0
  replace BB := bon BB B
  replace S0 := smp_below B S0
  go_wp2
  go_ret
  exact ⟨rfl, BB⟩

set_option maxRecDepth 100000 in
set_option maxHeartbeats 1000000 in
theorem sval_10 (s : Nat → Int) (w : World) (h0 : 1 ≤ s 0 ∧ s 0 ≤ 4) (h1 : 1 ≤ s 1 ∧ s 1 ≤ 4) (h2 : s 2 = 1 ∨ s 2 = 2) (h3 : s 3 = 1 ∨ s 3 = 2) (h4 : s 4 = 1 ∨ s 4 = 2) (h5 : 0 ≤ s 5 ∧ s 5 ≤ 65536) (h6 : 0 ≤ s 6 ∧ s 6 ≤ 65536) (h7 : 0 ≤ s 7 ∧ s 7 ≤ 65536) (h8 : 0 ≤ s 8 ∧ s 8 ≤ 65536) (h9 : -524288 ≤ s 9) (h10 : ¬ (s 9 ≤ 524288)) : Calls Try.prog 15 #[.agg (smps s)] w fun e w' => e = .returned (.bool false) ∧ Below w.heap.size w w' := by
  have BB := box_below w (smps s) 27
  have S0 := smp_box w s 27
  have c0 := fun W => of_q (valid_q (s 0) W)
  rw [show avalid (s 0) = true from decide_eq_true h0] at c0
  have C0 := Lib.hid c0
  clear c0
  have c1 := fun W => of_q (valid_q (s 1) W)
  rw [show avalid (s 1) = true from decide_eq_true h1] at c1
  have C1 := Lib.hid c1
  clear c1
  have c2 := fun W => of_q (isFilter_q (s 2) W)
  rw [decide_eq_true h2] at c2
  have C2 := Lib.hid c2
  clear c2
  have c3 := fun W => of_q (isFilter_q (s 3) W)
  rw [decide_eq_true h3] at c3
  have C3 := Lib.hid c3
  clear c3
  have c4 := fun W => of_q (isFilter_q (s 4) W)
  rw [decide_eq_true h4] at c4
  have C4 := Lib.hid c4
  clear c4
  have c5 := fun W => clamp4 (s 5) (s 6) (s 7) (s 8) W
  have e5 : clampv (s 5) 0 65536 = s 5 := by unfold clampv; rw [if_neg (by omega), if_neg (by omega)]
  rw [e5] at c5
  clear e5
  have e6 : clampv (s 6) 0 65536 = s 6 := by unfold clampv; rw [if_neg (by omega), if_neg (by omega)]
  rw [e6] at c5
  clear e6
  have e7 : clampv (s 7) 0 65536 = s 7 := by unfold clampv; rw [if_neg (by omega), if_neg (by omega)]
  rw [e7] at c5
  clear e7
  have e8 : clampv (s 8) 0 65536 = s 8 := by unfold clampv; rw [if_neg (by omega), if_neg (by omega)]
  rw [e8] at c5
  clear e8
  have C5 := Lib.hid c5
  clear c5
  have d9 : decide (-524288 ≤ s 9) = true := decide_eq_true h9
  have d10 : decide (s 9 ≤ 524288) = false := decide_eq_false h10
  clear h0 h1 h2 h3 h4 h5 h6 h7 h8 h9 h10
  go_enter Try.func15, Try.ntmps15
  go_wp2
  have k_S0 := smp_regrown S0
  refine wp_region_quiet_below (by kernel_rfl) (by kernel_rfl) ?_
  repeat (first | (go_big_quiet_want; refine quiet_sload _ _ rfl smpT (fun W hW => smp_class S0 hW) rfl ?_; go_simp; go_big_quiet_on) | (go_big_quiet_want; refine quiet_bload _ _ rfl bordT (fun W hW => smp_class S0 hW) rfl ?_; go_simp; go_big_quiet_on) | go_big_quiet_step ((first | (go_at_call 30; with_reducible exact Calls.regrown_of (C0.out _)) | (go_at_call 30; with_reducible exact Calls.regrown_of (C1.out _)) | (go_at_call 31; with_reducible exact Calls.regrown_of (C2.out _)) | (go_at_call 31; with_reducible exact Calls.regrown_of (C3.out _)) | (go_at_call 31; with_reducible exact Calls.regrown_of (C4.out _)) | (go_at_call 32; exact Calls.regrown_of (C5.out _)))) | quiet_step ((first | (go_at_call 30; with_reducible exact Calls.regrown_of (C0.out _)) | (go_at_call 30; with_reducible exact Calls.regrown_of (C1.out _)) | (go_at_call 31; with_reducible exact Calls.regrown_of (C2.out _)) | (go_at_call 31; with_reducible exact Calls.regrown_of (C3.out _)) | (go_at_call 31; with_reducible exact Calls.regrown_of (C4.out _)) | (go_at_call 32; exact Calls.regrown_of (C5.out _)))))
  refine wpQuiet_nil ?_
  intro W hw'
  have B := below_regrown' hw'
  clear hw' k_S0
  replace BB := bon BB B
  replace S0 := smp_below B S0
  go_wp2
  go_ret
  exact ⟨rfl, BB⟩

set_option maxRecDepth 100000 in
set_option maxHeartbeats 1000000 in
theorem sval_11 (s : Nat → Int) (w : World) (h0 : 1 ≤ s 0 ∧ s 0 ≤ 4) (h1 : 1 ≤ s 1 ∧ s 1 ≤ 4) (h2 : s 2 = 1 ∨ s 2 = 2) (h3 : s 3 = 1 ∨ s 3 = 2) (h4 : s 4 = 1 ∨ s 4 = 2) (h5 : 0 ≤ s 5 ∧ s 5 ≤ 65536) (h6 : 0 ≤ s 6 ∧ s 6 ≤ 65536) (h7 : 0 ≤ s 7 ∧ s 7 ≤ 65536) (h8 : 0 ≤ s 8 ∧ s 8 ≤ 65536) (h9 : -524288 ≤ s 9) (h10 : s 9 ≤ 524288) (h11 : ¬ (0 ≤ s 10)) : Calls Try.prog 15 #[.agg (smps s)] w fun e w' => e = .returned (.bool false) ∧ Below w.heap.size w w' := by
  have BB := box_below w (smps s) 27
  have S0 := smp_box w s 27
  have c0 := fun W => of_q (valid_q (s 0) W)
  rw [show avalid (s 0) = true from decide_eq_true h0] at c0
  have C0 := Lib.hid c0
  clear c0
  have c1 := fun W => of_q (valid_q (s 1) W)
  rw [show avalid (s 1) = true from decide_eq_true h1] at c1
  have C1 := Lib.hid c1
  clear c1
  have c2 := fun W => of_q (isFilter_q (s 2) W)
  rw [decide_eq_true h2] at c2
  have C2 := Lib.hid c2
  clear c2
  have c3 := fun W => of_q (isFilter_q (s 3) W)
  rw [decide_eq_true h3] at c3
  have C3 := Lib.hid c3
  clear c3
  have c4 := fun W => of_q (isFilter_q (s 4) W)
  rw [decide_eq_true h4] at c4
  have C4 := Lib.hid c4
  clear c4
  have c5 := fun W => clamp4 (s 5) (s 6) (s 7) (s 8) W
  have e5 : clampv (s 5) 0 65536 = s 5 := by unfold clampv; rw [if_neg (by omega), if_neg (by omega)]
  rw [e5] at c5
  clear e5
  have e6 : clampv (s 6) 0 65536 = s 6 := by unfold clampv; rw [if_neg (by omega), if_neg (by omega)]
  rw [e6] at c5
  clear e6
  have e7 : clampv (s 7) 0 65536 = s 7 := by unfold clampv; rw [if_neg (by omega), if_neg (by omega)]
  rw [e7] at c5
  clear e7
  have e8 : clampv (s 8) 0 65536 = s 8 := by unfold clampv; rw [if_neg (by omega), if_neg (by omega)]
  rw [e8] at c5
  clear e8
  have C5 := Lib.hid c5
  clear c5
  have d9 : decide (-524288 ≤ s 9) = true := decide_eq_true h9
  have d10 : decide (s 9 ≤ 524288) = true := decide_eq_true h10
  have d11 : decide (0 ≤ s 10) = false := decide_eq_false h11
  clear h0 h1 h2 h3 h4 h5 h6 h7 h8 h9 h10 h11
  go_enter Try.func15, Try.ntmps15
  go_wp2
  have k_S0 := smp_regrown S0
  refine wp_region_quiet_below (by kernel_rfl) (by kernel_rfl) ?_
  repeat (first | (go_big_quiet_want; refine quiet_sload _ _ rfl smpT (fun W hW => smp_class S0 hW) rfl ?_; go_simp; go_big_quiet_on) | (go_big_quiet_want; refine quiet_bload _ _ rfl bordT (fun W hW => smp_class S0 hW) rfl ?_; go_simp; go_big_quiet_on) | go_big_quiet_step ((first | (go_at_call 30; with_reducible exact Calls.regrown_of (C0.out _)) | (go_at_call 30; with_reducible exact Calls.regrown_of (C1.out _)) | (go_at_call 31; with_reducible exact Calls.regrown_of (C2.out _)) | (go_at_call 31; with_reducible exact Calls.regrown_of (C3.out _)) | (go_at_call 31; with_reducible exact Calls.regrown_of (C4.out _)) | (go_at_call 32; exact Calls.regrown_of (C5.out _)))) | quiet_step ((first | (go_at_call 30; with_reducible exact Calls.regrown_of (C0.out _)) | (go_at_call 30; with_reducible exact Calls.regrown_of (C1.out _)) | (go_at_call 31; with_reducible exact Calls.regrown_of (C2.out _)) | (go_at_call 31; with_reducible exact Calls.regrown_of (C3.out _)) | (go_at_call 31; with_reducible exact Calls.regrown_of (C4.out _)) | (go_at_call 32; exact Calls.regrown_of (C5.out _)))))
  refine wpQuiet_nil ?_
  intro W hw'
  have B := below_regrown' hw'
  clear hw' k_S0
  replace BB := bon BB B
  replace S0 := smp_below B S0
  go_wp2
  go_ret
  exact ⟨rfl, BB⟩

set_option maxRecDepth 100000 in
set_option maxHeartbeats 1000000 in
theorem sval_12 (s : Nat → Int) (w : World) (h0 : 1 ≤ s 0 ∧ s 0 ≤ 4) (h1 : 1 ≤ s 1 ∧ s 1 ≤ 4) (h2 : s 2 = 1 ∨ s 2 = 2) (h3 : s 3 = 1 ∨ s 3 = 2) (h4 : s 4 = 1 ∨ s 4 = 2) (h5 : 0 ≤ s 5 ∧ s 5 ≤ 65536) (h6 : 0 ≤ s 6 ∧ s 6 ≤ 65536) (h7 : 0 ≤ s 7 ∧ s 7 ≤ 65536) (h8 : 0 ≤ s 8 ∧ s 8 ≤ 65536) (h9 : -524288 ≤ s 9) (h10 : s 9 ≤ 524288) (h11 : 0 ≤ s 10) (h12 : ¬ (s 10 ≤ s 11)) : Calls Try.prog 15 #[.agg (smps s)] w fun e w' => e = .returned (.bool false) ∧ Below w.heap.size w w' := by
  have BB := box_below w (smps s) 27
  have S0 := smp_box w s 27
  have c0 := fun W => of_q (valid_q (s 0) W)
  rw [show avalid (s 0) = true from decide_eq_true h0] at c0
  have C0 := Lib.hid c0
  clear c0
  have c1 := fun W => of_q (valid_q (s 1) W)
  rw [show avalid (s 1) = true from decide_eq_true h1] at c1
  have C1 := Lib.hid c1
  clear c1
  have c2 := fun W => of_q (isFilter_q (s 2) W)
  rw [decide_eq_true h2] at c2
  have C2 := Lib.hid c2
  clear c2
  have c3 := fun W => of_q (isFilter_q (s 3) W)
  rw [decide_eq_true h3] at c3
  have C3 := Lib.hid c3
  clear c3
  have c4 := fun W => of_q (isFilter_q (s 4) W)
  rw [decide_eq_true h4] at c4
  have C4 := Lib.hid c4
  clear c4
  have c5 := fun W => clamp4 (s 5) (s 6) (s 7) (s 8) W
  have e5 : clampv (s 5) 0 65536 = s 5 := by unfold clampv; rw [if_neg (by omega), if_neg (by omega)]
  rw [e5] at c5
  clear e5
  have e6 : clampv (s 6) 0 65536 = s 6 := by unfold clampv; rw [if_neg (by omega), if_neg (by omega)]
  rw [e6] at c5
  clear e6
  have e7 : clampv (s 7) 0 65536 = s 7 := by unfold clampv; rw [if_neg (by omega), if_neg (by omega)]
  rw [e7] at c5
  clear e7
  have e8 : clampv (s 8) 0 65536 = s 8 := by unfold clampv; rw [if_neg (by omega), if_neg (by omega)]
  rw [e8] at c5
  clear e8
  have C5 := Lib.hid c5
  clear c5
  have d9 : decide (-524288 ≤ s 9) = true := decide_eq_true h9
  have d10 : decide (s 9 ≤ 524288) = true := decide_eq_true h10
  have d11 : decide (0 ≤ s 10) = true := decide_eq_true h11
  have d12 : decide (s 10 ≤ s 11) = false := decide_eq_false h12
  clear h0 h1 h2 h3 h4 h5 h6 h7 h8 h9 h10 h11 h12
  go_enter Try.func15, Try.ntmps15
  go_wp2
  have k_S0 := smp_regrown S0
  refine wp_region_quiet_below (by kernel_rfl) (by kernel_rfl) ?_
  repeat (first | (go_big_quiet_want; refine quiet_sload _ _ rfl smpT (fun W hW => smp_class S0 hW) rfl ?_; go_simp; go_big_quiet_on) | (go_big_quiet_want; refine quiet_bload _ _ rfl bordT (fun W hW => smp_class S0 hW) rfl ?_; go_simp; go_big_quiet_on) | go_big_quiet_step ((first | (go_at_call 30; with_reducible exact Calls.regrown_of (C0.out _)) | (go_at_call 30; with_reducible exact Calls.regrown_of (C1.out _)) | (go_at_call 31; with_reducible exact Calls.regrown_of (C2.out _)) | (go_at_call 31; with_reducible exact Calls.regrown_of (C3.out _)) | (go_at_call 31; with_reducible exact Calls.regrown_of (C4.out _)) | (go_at_call 32; exact Calls.regrown_of (C5.out _)))) | quiet_step ((first | (go_at_call 30; with_reducible exact Calls.regrown_of (C0.out _)) | (go_at_call 30; with_reducible exact Calls.regrown_of (C1.out _)) | (go_at_call 31; with_reducible exact Calls.regrown_of (C2.out _)) | (go_at_call 31; with_reducible exact Calls.regrown_of (C3.out _)) | (go_at_call 31; with_reducible exact Calls.regrown_of (C4.out _)) | (go_at_call 32; exact Calls.regrown_of (C5.out _)))))
  refine wpQuiet_nil ?_
  intro W hw'
  have B := below_regrown' hw'
  clear hw' k_S0
  replace BB := bon BB B
  replace S0 := smp_below B S0
  go_wp2
  go_ret
  exact ⟨rfl, BB⟩

set_option maxRecDepth 100000 in
set_option maxHeartbeats 1000000 in
theorem sval_13 (s : Nat → Int) (w : World) (h0 : 1 ≤ s 0 ∧ s 0 ≤ 4) (h1 : 1 ≤ s 1 ∧ s 1 ≤ 4) (h2 : s 2 = 1 ∨ s 2 = 2) (h3 : s 3 = 1 ∨ s 3 = 2) (h4 : s 4 = 1 ∨ s 4 = 2) (h5 : 0 ≤ s 5 ∧ s 5 ≤ 65536) (h6 : 0 ≤ s 6 ∧ s 6 ≤ 65536) (h7 : 0 ≤ s 7 ∧ s 7 ≤ 65536) (h8 : 0 ≤ s 8 ∧ s 8 ≤ 65536) (h9 : -524288 ≤ s 9) (h10 : s 9 ≤ 524288) (h11 : 0 ≤ s 10) (h12 : s 10 ≤ s 11) (h13 : ¬ (s 11 ≤ 524288)) : Calls Try.prog 15 #[.agg (smps s)] w fun e w' => e = .returned (.bool false) ∧ Below w.heap.size w w' := by
  have BB := box_below w (smps s) 27
  have S0 := smp_box w s 27
  have c0 := fun W => of_q (valid_q (s 0) W)
  rw [show avalid (s 0) = true from decide_eq_true h0] at c0
  have C0 := Lib.hid c0
  clear c0
  have c1 := fun W => of_q (valid_q (s 1) W)
  rw [show avalid (s 1) = true from decide_eq_true h1] at c1
  have C1 := Lib.hid c1
  clear c1
  have c2 := fun W => of_q (isFilter_q (s 2) W)
  rw [decide_eq_true h2] at c2
  have C2 := Lib.hid c2
  clear c2
  have c3 := fun W => of_q (isFilter_q (s 3) W)
  rw [decide_eq_true h3] at c3
  have C3 := Lib.hid c3
  clear c3
  have c4 := fun W => of_q (isFilter_q (s 4) W)
  rw [decide_eq_true h4] at c4
  have C4 := Lib.hid c4
  clear c4
  have c5 := fun W => clamp4 (s 5) (s 6) (s 7) (s 8) W
  have e5 : clampv (s 5) 0 65536 = s 5 := by unfold clampv; rw [if_neg (by omega), if_neg (by omega)]
  rw [e5] at c5
  clear e5
  have e6 : clampv (s 6) 0 65536 = s 6 := by unfold clampv; rw [if_neg (by omega), if_neg (by omega)]
  rw [e6] at c5
  clear e6
  have e7 : clampv (s 7) 0 65536 = s 7 := by unfold clampv; rw [if_neg (by omega), if_neg (by omega)]
  rw [e7] at c5
  clear e7
  have e8 : clampv (s 8) 0 65536 = s 8 := by unfold clampv; rw [if_neg (by omega), if_neg (by omega)]
  rw [e8] at c5
  clear e8
  have C5 := Lib.hid c5
  clear c5
  have d9 : decide (-524288 ≤ s 9) = true := decide_eq_true h9
  have d10 : decide (s 9 ≤ 524288) = true := decide_eq_true h10
  have d11 : decide (0 ≤ s 10) = true := decide_eq_true h11
  have d12 : decide (s 10 ≤ s 11) = true := decide_eq_true h12
  have d13 : decide (s 11 ≤ 524288) = false := decide_eq_false h13
  clear h0 h1 h2 h3 h4 h5 h6 h7 h8 h9 h10 h11 h12 h13
  go_enter Try.func15, Try.ntmps15
  go_wp2
  have k_S0 := smp_regrown S0
  refine wp_region_quiet_below (by kernel_rfl) (by kernel_rfl) ?_
  repeat (first | (go_big_quiet_want; refine quiet_sload _ _ rfl smpT (fun W hW => smp_class S0 hW) rfl ?_; go_simp; go_big_quiet_on) | (go_big_quiet_want; refine quiet_bload _ _ rfl bordT (fun W hW => smp_class S0 hW) rfl ?_; go_simp; go_big_quiet_on) | go_big_quiet_step ((first | (go_at_call 30; with_reducible exact Calls.regrown_of (C0.out _)) | (go_at_call 30; with_reducible exact Calls.regrown_of (C1.out _)) | (go_at_call 31; with_reducible exact Calls.regrown_of (C2.out _)) | (go_at_call 31; with_reducible exact Calls.regrown_of (C3.out _)) | (go_at_call 31; with_reducible exact Calls.regrown_of (C4.out _)) | (go_at_call 32; exact Calls.regrown_of (C5.out _)))) | quiet_step ((first | (go_at_call 30; with_reducible exact Calls.regrown_of (C0.out _)) | (go_at_call 30; with_reducible exact Calls.regrown_of (C1.out _)) | (go_at_call 31; with_reducible exact Calls.regrown_of (C2.out _)) | (go_at_call 31; with_reducible exact Calls.regrown_of (C3.out _)) | (go_at_call 31; with_reducible exact Calls.regrown_of (C4.out _)) | (go_at_call 32; exact Calls.regrown_of (C5.out _)))))
  refine wpQuiet_nil ?_
  intro W hw'
  have B := below_regrown' hw'
  clear hw' k_S0
  replace BB := bon BB B
  replace S0 := smp_below B S0
  go_wp2
  go_ret
  exact ⟨rfl, BB⟩

set_option maxRecDepth 100000 in
set_option maxHeartbeats 1000000 in
theorem sval_14 (s : Nat → Int) (w : World) (h0 : 1 ≤ s 0 ∧ s 0 ≤ 4) (h1 : 1 ≤ s 1 ∧ s 1 ≤ 4) (h2 : s 2 = 1 ∨ s 2 = 2) (h3 : s 3 = 1 ∨ s 3 = 2) (h4 : s 4 = 1 ∨ s 4 = 2) (h5 : 0 ≤ s 5 ∧ s 5 ≤ 65536) (h6 : 0 ≤ s 6 ∧ s 6 ≤ 65536) (h7 : 0 ≤ s 7 ∧ s 7 ≤ 65536) (h8 : 0 ≤ s 8 ∧ s 8 ≤ 65536) (h9 : -524288 ≤ s 9) (h10 : s 9 ≤ 524288) (h11 : 0 ≤ s 10) (h12 : s 10 ≤ s 11) (h13 : s 11 ≤ 524288) : Calls Try.prog 15 #[.agg (smps s)] w fun e w' => e = .returned (.bool true) ∧ Below w.heap.size w w' := by
  have BB := box_below w (smps s) 27
  have S0 := smp_box w s 27
  have c0 := fun W => of_q (valid_q (s 0) W)
  rw [show avalid (s 0) = true from decide_eq_true h0] at c0
  have C0 := Lib.hid c0
  clear c0
  have c1 := fun W => of_q (valid_q (s 1) W)
  rw [show avalid (s 1) = true from decide_eq_true h1] at c1
  have C1 := Lib.hid c1
  clear c1
  have c2 := fun W => of_q (isFilter_q (s 2) W)
  rw [decide_eq_true h2] at c2
  have C2 := Lib.hid c2
  clear c2
  have c3 := fun W => of_q (isFilter_q (s 3) W)
  rw [decide_eq_true h3] at c3
  have C3 := Lib.hid c3
  clear c3
  have c4 := fun W => of_q (isFilter_q (s 4) W)
  rw [decide_eq_true h4] at c4
  have C4 := Lib.hid c4
  clear c4
  have c5 := fun W => clamp4 (s 5) (s 6) (s 7) (s 8) W
  have e5 : clampv (s 5) 0 65536 = s 5 := by unfold clampv; rw [if_neg (by omega), if_neg (by omega)]
  rw [e5] at c5
  clear e5
  have e6 : clampv (s 6) 0 65536 = s 6 := by unfold clampv; rw [if_neg (by omega), if_neg (by omega)]
  rw [e6] at c5
  clear e6
  have e7 : clampv (s 7) 0 65536 = s 7 := by unfold clampv; rw [if_neg (by omega), if_neg (by omega)]
  rw [e7] at c5
  clear e7
  have e8 : clampv (s 8) 0 65536 = s 8 := by unfold clampv; rw [if_neg (by omega), if_neg (by omega)]
  rw [e8] at c5
  clear e8
  have C5 := Lib.hid c5
  clear c5
  have d9 : decide (-524288 ≤ s 9) = true := decide_eq_true h9
  have d10 : decide (s 9 ≤ 524288) = true := decide_eq_true h10
  have d11 : decide (0 ≤ s 10) = true := decide_eq_true h11
  have d12 : decide (s 10 ≤ s 11) = true := decide_eq_true h12
  have d13 : decide (s 11 ≤ 524288) = true := decide_eq_true h13
  clear h0 h1 h2 h3 h4 h5 h6 h7 h8 h9 h10 h11 h12 h13
  go_enter Try.func15, Try.ntmps15
  go_wp2
  have k_S0 := smp_regrown S0
  refine wp_region_quiet_below (by kernel_rfl) (by kernel_rfl) ?_
  repeat (first | (go_big_quiet_want; refine quiet_sload _ _ rfl smpT (fun W hW => smp_class S0 hW) rfl ?_; go_simp; go_big_quiet_on) | (go_big_quiet_want; refine quiet_bload _ _ rfl bordT (fun W hW => smp_class S0 hW) rfl ?_; go_simp; go_big_quiet_on) | go_big_quiet_step ((first | (go_at_call 30; with_reducible exact Calls.regrown_of (C0.out _)) | (go_at_call 30; with_reducible exact Calls.regrown_of (C1.out _)) | (go_at_call 31; with_reducible exact Calls.regrown_of (C2.out _)) | (go_at_call 31; with_reducible exact Calls.regrown_of (C3.out _)) | (go_at_call 31; with_reducible exact Calls.regrown_of (C4.out _)) | (go_at_call 32; exact Calls.regrown_of (C5.out _)))) | quiet_step ((first | (go_at_call 30; with_reducible exact Calls.regrown_of (C0.out _)) | (go_at_call 30; with_reducible exact Calls.regrown_of (C1.out _)) | (go_at_call 31; with_reducible exact Calls.regrown_of (C2.out _)) | (go_at_call 31; with_reducible exact Calls.regrown_of (C3.out _)) | (go_at_call 31; with_reducible exact Calls.regrown_of (C4.out _)) | (go_at_call 32; exact Calls.regrown_of (C5.out _)))))
  refine wpQuiet_nil ?_
  intro W hw'
  have B := below_regrown' hw'
  clear hw' k_S0
  replace BB := bon BB B
  replace S0 := smp_below B S0
  go_wp2
  go_ret
  exact ⟨rfl, BB⟩

theorem sval_b (s : Nat → Int) (w : World) : Calls Try.prog 15 #[.agg (smps s)] w fun e w' => e = .returned (.bool (decide (SV s))) ∧ Below w.heap.size w w' := by
  by_cases h0 : 1 ≤ s 0 ∧ s 0 ≤ 4
  rotate_left
  · rw [decide_eq_false (show ¬ SV s from fun k => h0 k.1.1)]
    exact sval_0 s w h0
  by_cases h1 : 1 ≤ s 1 ∧ s 1 ≤ 4
  rotate_left
  · rw [decide_eq_false (show ¬ SV s from fun k => h1 k.1.2.1)]
    exact sval_1 s w h0 h1
  by_cases h2 : s 2 = 1 ∨ s 2 = 2
  rotate_left
  · rw [decide_eq_false (show ¬ SV s from fun k => h2 k.1.2.2.1)]
    exact sval_2 s w h0 h1 h2
  by_cases h3 : s 3 = 1 ∨ s 3 = 2
  rotate_left
  · rw [decide_eq_false (show ¬ SV s from fun k => h3 k.1.2.2.2.1)]
    exact sval_3 s w h0 h1 h2 h3
  by_cases h4 : s 4 = 1 ∨ s 4 = 2
  rotate_left
  · rw [decide_eq_false (show ¬ SV s from fun k => h4 k.1.2.2.2.2)]
    exact sval_4 s w h0 h1 h2 h3 h4
  by_cases h5 : 0 ≤ s 5 ∧ s 5 ≤ 65536
  rotate_left
  · rw [decide_eq_false (show ¬ SV s from fun k => h5 k.2.1.1)]
    exact sval_5 s w h0 h1 h2 h3 h4 h5
  by_cases h6 : 0 ≤ s 6 ∧ s 6 ≤ 65536
  rotate_left
  · rw [decide_eq_false (show ¬ SV s from fun k => h6 k.2.1.2.1)]
    exact sval_6 s w h0 h1 h2 h3 h4 h5 h6
  by_cases h7 : 0 ≤ s 7 ∧ s 7 ≤ 65536
  rotate_left
  · rw [decide_eq_false (show ¬ SV s from fun k => h7 k.2.1.2.2.1)]
    exact sval_7 s w h0 h1 h2 h3 h4 h5 h6 h7
  by_cases h8 : 0 ≤ s 8 ∧ s 8 ≤ 65536
  rotate_left
  · rw [decide_eq_false (show ¬ SV s from fun k => h8 k.2.1.2.2.2)]
    exact sval_8 s w h0 h1 h2 h3 h4 h5 h6 h7 h8
  by_cases h9 : -524288 ≤ s 9
  rotate_left
  · rw [decide_eq_false (show ¬ SV s from fun k => h9 k.2.2.1)]
    exact sval_9 s w h0 h1 h2 h3 h4 h5 h6 h7 h8 h9
  by_cases h10 : s 9 ≤ 524288
  rotate_left
  · rw [decide_eq_false (show ¬ SV s from fun k => h10 k.2.2.2.1)]
    exact sval_10 s w h0 h1 h2 h3 h4 h5 h6 h7 h8 h9 h10
  by_cases h11 : 0 ≤ s 10
  rotate_left
  · rw [decide_eq_false (show ¬ SV s from fun k => h11 k.2.2.2.2.1)]
    exact sval_11 s w h0 h1 h2 h3 h4 h5 h6 h7 h8 h9 h10 h11
  by_cases h12 : s 10 ≤ s 11
  rotate_left
  · rw [decide_eq_false (show ¬ SV s from fun k => h12 k.2.2.2.2.2.1)]
    exact sval_12 s w h0 h1 h2 h3 h4 h5 h6 h7 h8 h9 h10 h11 h12
  by_cases h13 : s 11 ≤ 524288
  rotate_left
  · rw [decide_eq_false (show ¬ SV s from fun k => h13 k.2.2.2.2.2.2)]
    exact sval_13 s w h0 h1 h2 h3 h4 h5 h6 h7 h8 h9 h10 h11 h12 h13
  rw [decide_eq_true (show SV s from ⟨⟨h0, h1, h2, h3, h4⟩, ⟨h5, h6, h7, h8⟩, h9, h10, h11, h12, h13⟩)]
  exact sval_14 s w h0 h1 h2 h3 h4 h5 h6 h7 h8 h9 h10 h11 h12 h13

end Go.Proofs.Ytoipmldbjciinaa
