/- The small functions of the reference of samplers; Valid. -/
import Derived.Test.YtoipmldbjciinaaSMath
import Derived.Test.YtoipmldbjciinaaSmp
import Derived.Test.YtoipmldbjciinaaFixedB
import Derived.Test.YtoipmldbjciinaaVec
import Derived.Test.YtoipmldbjciinaaA1
import Derived.Test.YtoipmldbjciinaaS1
namespace Go.Proofs.Ytoipmldbjciinaa
open Go.RowKit Go.Sort

theorem rfilter_q (f : Int) (w : World) : Calls Try.prog 41 #[.int .i64 f] w fun e w' => e = .returned (.bool (decide (f = 1 ∨ f = 2))) ∧ w = w' := by
  rcases (show f = 1 ∨ f = 2 ∨ (f ≠ 1 ∧ f ≠ 2) by omega) with rfl | rfl | ⟨h1, h2⟩
  · go_enter Try.func41, Try.ntmps41
    go_wp2
    go_ret
    exact ⟨rfl, rfl⟩
  · go_enter Try.func41, Try.ntmps41
    go_wp2
    go_ret
    exact ⟨rfl, rfl⟩
  · have t1 : (f == 1) = false := by simp [h1]
    have t2 : (f == 2) = false := by simp [h2]
    rw [decide_eq_false (by omega)]
    clear h1 h2
    go_enter Try.func41, Try.ntmps41
    go_wp2
    go_ret
    exact ⟨rfl, rfl⟩

theorem rcomponent_q (x : Int) (w : World) : Calls Try.prog 42 #[.int .i64 x] w fun e w' => e = .returned (.bool (decide (0 ≤ x ∧ x ≤ 65536))) ∧ w = w' := by
  rcases (show (0 ≤ x ∧ x ≤ 65536) ∨ (¬ 0 ≤ x) ∨ (0 ≤ x ∧ ¬ x ≤ 65536) by omega) with ⟨h1, h2⟩ | h1 | ⟨h1, h2⟩
  · rw [decide_eq_true ⟨h1, h2⟩]
    go_enter Try.func42, Try.ntmps42
    go_wp2
    go_ret
    exact ⟨rfl, rfl⟩
  all_goals
    rw [decide_eq_false (by omega)]
    go_enter Try.func42, Try.ntmps42
    go_wp2
    go_ret
    exact ⟨rfl, rfl⟩

set_option maxRecDepth 100000 in
set_option maxHeartbeats 1000000 in
theorem rsval_0 (s : Nat → Int) (w : World)  (h0 : ¬ (1 ≤ s 0 ∧ s 0 ≤ 4)) : Calls Try.prog 21 #[.agg (smps s)] w fun e w' => e = .returned (.bool false) ∧ Below w.heap.size w w' := by
  have BB := box_below w (smps s) 27
  have S0 := smp_box w s 27
  have c0 := fun W => of_q (ravalid_q (s 0) W)
  rw [show avalid (s 0) = false from decide_eq_false h0] at c0
  have C0 := Lib.hid c0
  clear c0
  clear h0
  go_enter Try.func21, Try.ntmps21
  go_wp2_with (first | (go_at_call 40; (with_reducible refine (C0.out _).mono ?_); rintro _ _ ⟨rfl, B⟩; (replace BB := bon BB B; replace S0 := smp_below B S0)))
  go_ret
  exact ⟨rfl, BB⟩

set_option maxRecDepth 100000 in
set_option maxHeartbeats 1000000 in
theorem rsval_1 (s : Nat → Int) (w : World) (h0 : 1 ≤ s 0 ∧ s 0 ≤ 4) (h1 : ¬ (1 ≤ s 1 ∧ s 1 ≤ 4)) : Calls Try.prog 21 #[.agg (smps s)] w fun e w' => e = .returned (.bool false) ∧ Below w.heap.size w w' := by
  have BB := box_below w (smps s) 27
  have S0 := smp_box w s 27
  have c0 := fun W => of_q (ravalid_q (s 0) W)
  rw [show avalid (s 0) = true from decide_eq_true h0] at c0
  have C0 := Lib.hid c0
  clear c0
  have c1 := fun W => of_q (ravalid_q (s 1) W)
  rw [show avalid (s 1) = false from decide_eq_false h1] at c1
  have C1 := Lib.hid c1
  clear c1
  clear h0 h1
  go_enter Try.func21, Try.ntmps21
  go_wp2_with (first | (go_at_call 40; (with_reducible refine (C0.out _).mono ?_); rintro _ _ ⟨rfl, B⟩; (replace BB := bon BB B; replace S0 := smp_below B S0)) | (go_at_call 40; (with_reducible refine (C1.out _).mono ?_); rintro _ _ ⟨rfl, B⟩; (replace BB := bon BB B; replace S0 := smp_below B S0)))
  go_ret
  exact ⟨rfl, BB⟩

set_option maxRecDepth 100000 in
set_option maxHeartbeats 1000000 in
theorem rsval_2 (s : Nat → Int) (w : World) (h0 : 1 ≤ s 0 ∧ s 0 ≤ 4) (h1 : 1 ≤ s 1 ∧ s 1 ≤ 4) (h2 : ¬ (s 2 = 1 ∨ s 2 = 2)) : Calls Try.prog 21 #[.agg (smps s)] w fun e w' => e = .returned (.bool false) ∧ Below w.heap.size w w' := by
  have BB := box_below w (smps s) 27
  have S0 := smp_box w s 27
  have c0 := fun W => of_q (ravalid_q (s 0) W)
  rw [show avalid (s 0) = true from decide_eq_true h0] at c0
  have C0 := Lib.hid c0
  clear c0
  have c1 := fun W => of_q (ravalid_q (s 1) W)
  rw [show avalid (s 1) = true from decide_eq_true h1] at c1
  have C1 := Lib.hid c1
  clear c1
  have c2 := fun W => of_q (rfilter_q (s 2) W)
  rw [decide_eq_false h2] at c2
  have C2 := Lib.hid c2
  clear c2
  clear h0 h1 h2
  go_enter Try.func21, Try.ntmps21
  go_wp2_with (first | (go_at_call 40; (with_reducible refine (C0.out _).mono ?_); rintro _ _ ⟨rfl, B⟩; (replace BB := bon BB B; replace S0 := smp_below B S0)) | (go_at_call 40; (with_reducible refine (C1.out _).mono ?_); rintro _ _ ⟨rfl, B⟩; (replace BB := bon BB B; replace S0 := smp_below B S0)) | (go_at_call 41; (with_reducible refine (C2.out _).mono ?_); rintro _ _ ⟨rfl, B⟩; (replace BB := bon BB B; replace S0 := smp_below B S0)))
  go_ret
  exact ⟨rfl, BB⟩

set_option maxRecDepth 100000 in
set_option maxHeartbeats 1000000 in
theorem rsval_3 (s : Nat → Int) (w : World) (h0 : 1 ≤ s 0 ∧ s 0 ≤ 4) (h1 : 1 ≤ s 1 ∧ s 1 ≤ 4) (h2 : s 2 = 1 ∨ s 2 = 2) (h3 : ¬ (s 3 = 1 ∨ s 3 = 2)) : Calls Try.prog 21 #[.agg (smps s)] w fun e w' => e = .returned (.bool false) ∧ Below w.heap.size w w' := by
  have BB := box_below w (smps s) 27
  have S0 := smp_box w s 27
  have c0 := fun W => of_q (ravalid_q (s 0) W)
  rw [show avalid (s 0) = true from decide_eq_true h0] at c0
  have C0 := Lib.hid c0
  clear c0
  have c1 := fun W => of_q (ravalid_q (s 1) W)
  rw [show avalid (s 1) = true from decide_eq_true h1] at c1
  have C1 := Lib.hid c1
  clear c1
  have c2 := fun W => of_q (rfilter_q (s 2) W)
  rw [decide_eq_true h2] at c2
  have C2 := Lib.hid c2
  clear c2
  have c3 := fun W => of_q (rfilter_q (s 3) W)
  rw [decide_eq_false h3] at c3
  have C3 := Lib.hid c3
  clear c3
  clear h0 h1 h2 h3
  go_enter Try.func21, Try.ntmps21
  go_wp2_with (first | (go_at_call 40; (with_reducible refine (C0.out _).mono ?_); rintro _ _ ⟨rfl, B⟩; (replace BB := bon BB B; replace S0 := smp_below B S0)) | (go_at_call 40; (with_reducible refine (C1.out _).mono ?_); rintro _ _ ⟨rfl, B⟩; (replace BB := bon BB B; replace S0 := smp_below B S0)) | (go_at_call 41; (with_reducible refine (C2.out _).mono ?_); rintro _ _ ⟨rfl, B⟩; (replace BB := bon BB B; replace S0 := smp_below B S0)) | (go_at_call 41; (with_reducible refine (C3.out _).mono ?_); rintro _ _ ⟨rfl, B⟩; (replace BB := bon BB B; replace S0 := smp_below B S0)))
  go_ret
  exact ⟨rfl, BB⟩

set_option maxRecDepth 100000 in
set_option maxHeartbeats 1000000 in
theorem rsval_4 (s : Nat → Int) (w : World) (h0 : 1 ≤ s 0 ∧ s 0 ≤ 4) (h1 : 1 ≤ s 1 ∧ s 1 ≤ 4) (h2 : s 2 = 1 ∨ s 2 = 2) (h3 : s 3 = 1 ∨ s 3 = 2) (h4 : ¬ (s 4 = 1 ∨ s 4 = 2)) : Calls Try.prog 21 #[.agg (smps s)] w fun e w' => e = .returned (.bool false) ∧ Below w.heap.size w w' := by
  have BB := box_below w (smps s) 27
  have S0 := smp_box w s 27
  have c0 := fun W => of_q (ravalid_q (s 0) W)
  rw [show avalid (s 0) = true from decide_eq_true h0] at c0
  have C0 := Lib.hid c0
  clear c0
  have c1 := fun W => of_q (ravalid_q (s 1) W)
  rw [show avalid (s 1) = true from decide_eq_true h1] at c1
  have C1 := Lib.hid c1
  clear c1
  have c2 := fun W => of_q (rfilter_q (s 2) W)
  rw [decide_eq_true h2] at c2
  have C2 := Lib.hid c2
  clear c2
  have c3 := fun W => of_q (rfilter_q (s 3) W)
  rw [decide_eq_true h3] at c3
  have C3 := Lib.hid c3
  clear c3
  have c4 := fun W => of_q (rfilter_q (s 4) W)
  rw [decide_eq_false h4] at c4
  have C4 := Lib.hid c4
  clear c4
  clear h0 h1 h2 h3 h4
  go_enter Try.func21, Try.ntmps21
  go_wp2_with (first | (go_at_call 40; (with_reducible refine (C0.out _).mono ?_); rintro _ _ ⟨rfl, B⟩; (replace BB := bon BB B; replace S0 := smp_below B S0)) | (go_at_call 40; (with_reducible refine (C1.out _).mono ?_); rintro _ _ ⟨rfl, B⟩; (replace BB := bon BB B; replace S0 := smp_below B S0)) | (go_at_call 41; (with_reducible refine (C2.out _).mono ?_); rintro _ _ ⟨rfl, B⟩; (replace BB := bon BB B; replace S0 := smp_below B S0)) | (go_at_call 41; (with_reducible refine (C3.out _).mono ?_); rintro _ _ ⟨rfl, B⟩; (replace BB := bon BB B; replace S0 := smp_below B S0)) | (go_at_call 41; (with_reducible refine (C4.out _).mono ?_); rintro _ _ ⟨rfl, B⟩; (replace BB := bon BB B; replace S0 := smp_below B S0)))
  go_ret
  exact ⟨rfl, BB⟩

set_option maxRecDepth 100000 in
set_option maxHeartbeats 1000000 in
theorem rsval_5 (s : Nat → Int) (w : World) (h0 : 1 ≤ s 0 ∧ s 0 ≤ 4) (h1 : 1 ≤ s 1 ∧ s 1 ≤ 4) (h2 : s 2 = 1 ∨ s 2 = 2) (h3 : s 3 = 1 ∨ s 3 = 2) (h4 : s 4 = 1 ∨ s 4 = 2) (h5 : ¬ (0 ≤ s 5 ∧ s 5 ≤ 65536)) : Calls Try.prog 21 #[.agg (smps s)] w fun e w' => e = .returned (.bool false) ∧ Below w.heap.size w w' := by
  have BB := box_below w (smps s) 27
  have S0 := smp_box w s 27
  have c0 := fun W => of_q (ravalid_q (s 0) W)
  rw [show avalid (s 0) = true from decide_eq_true h0] at c0
  have C0 := Lib.hid c0
  clear c0
  have c1 := fun W => of_q (ravalid_q (s 1) W)
  rw [show avalid (s 1) = true from decide_eq_true h1] at c1
  have C1 := Lib.hid c1
  clear c1
  have c2 := fun W => of_q (rfilter_q (s 2) W)
  rw [decide_eq_true h2] at c2
  have C2 := Lib.hid c2
  clear c2
  have c3 := fun W => of_q (rfilter_q (s 3) W)
  rw [decide_eq_true h3] at c3
  have C3 := Lib.hid c3
  clear c3
  have c4 := fun W => of_q (rfilter_q (s 4) W)
  rw [decide_eq_true h4] at c4
  have C4 := Lib.hid c4
  clear c4
  have c5 := fun W => of_q (rcomponent_q (s 5) W)
  rw [decide_eq_false h5] at c5
  have C5 := Lib.hid c5
  clear c5
  clear h0 h1 h2 h3 h4 h5
  go_enter Try.func21, Try.ntmps21
  go_wp2_with (first | (go_at_call 40; (with_reducible refine (C0.out _).mono ?_); rintro _ _ ⟨rfl, B⟩; (replace BB := bon BB B; replace S0 := smp_below B S0)) | (go_at_call 40; (with_reducible refine (C1.out _).mono ?_); rintro _ _ ⟨rfl, B⟩; (replace BB := bon BB B; replace S0 := smp_below B S0)) | (go_at_call 41; (with_reducible refine (C2.out _).mono ?_); rintro _ _ ⟨rfl, B⟩; (replace BB := bon BB B; replace S0 := smp_below B S0)) | (go_at_call 41; (with_reducible refine (C3.out _).mono ?_); rintro _ _ ⟨rfl, B⟩; (replace BB := bon BB B; replace S0 := smp_below B S0)) | (go_at_call 41; (with_reducible refine (C4.out _).mono ?_); rintro _ _ ⟨rfl, B⟩; (replace BB := bon BB B; replace S0 := smp_below B S0)) | (go_at_call 42; (with_reducible refine (C5.out _).mono ?_); rintro _ _ ⟨rfl, B⟩; (replace BB := bon BB B; replace S0 := smp_below B S0)))
  go_ret
  exact ⟨rfl, BB⟩

set_option maxRecDepth 100000 in
set_option maxHeartbeats 1000000 in
theorem rsval_6 (s : Nat → Int) (w : World) (h0 : 1 ≤ s 0 ∧ s 0 ≤ 4) (h1 : 1 ≤ s 1 ∧ s 1 ≤ 4) (h2 : s 2 = 1 ∨ s 2 = 2) (h3 : s 3 = 1 ∨ s 3 = 2) (h4 : s 4 = 1 ∨ s 4 = 2) (h5 : 0 ≤ s 5 ∧ s 5 ≤ 65536) (h6 : ¬ (0 ≤ s 6 ∧ s 6 ≤ 65536)) : Calls Try.prog 21 #[.agg (smps s)] w fun e w' => e = .returned (.bool false) ∧ Below w.heap.size w w' := by
  have BB := box_below w (smps s) 27
  have S0 := smp_box w s 27
  have c0 := fun W => of_q (ravalid_q (s 0) W)
  rw [show avalid (s 0) = true from decide_eq_true h0] at c0
  have C0 := Lib.hid c0
  clear c0
  have c1 := fun W => of_q (ravalid_q (s 1) W)
  rw [show avalid (s 1) = true from decide_eq_true h1] at c1
  have C1 := Lib.hid c1
  clear c1
  have c2 := fun W => of_q (rfilter_q (s 2) W)
  rw [decide_eq_true h2] at c2
  have C2 := Lib.hid c2
  clear c2
  have c3 := fun W => of_q (rfilter_q (s 3) W)
  rw [decide_eq_true h3] at c3
  have C3 := Lib.hid c3
  clear c3
  have c4 := fun W => of_q (rfilter_q (s 4) W)
  rw [decide_eq_true h4] at c4
  have C4 := Lib.hid c4
  clear c4
  have c5 := fun W => of_q (rcomponent_q (s 5) W)
  rw [decide_eq_true h5] at c5
  have C5 := Lib.hid c5
  clear c5
  have c6 := fun W => of_q (rcomponent_q (s 6) W)
  rw [decide_eq_false h6] at c6
  have C6 := Lib.hid c6
  clear c6
  clear h0 h1 h2 h3 h4 h5 h6
  go_enter Try.func21, Try.ntmps21
  go_wp2_with (first | (go_at_call 40; (with_reducible refine (C0.out _).mono ?_); rintro _ _ ⟨rfl, B⟩; (replace BB := bon BB B; replace S0 := smp_below B S0)) | (go_at_call 40; (with_reducible refine (C1.out _).mono ?_); rintro _ _ ⟨rfl, B⟩; (replace BB := bon BB B; replace S0 := smp_below B S0)) | (go_at_call 41; (with_reducible refine (C2.out _).mono ?_); rintro _ _ ⟨rfl, B⟩; (replace BB := bon BB B; replace S0 := smp_below B S0)) | (go_at_call 41; (with_reducible refine (C3.out _).mono ?_); rintro _ _ ⟨rfl, B⟩; (replace BB := bon BB B; replace S0 := smp_below B S0)) | (go_at_call 41; (with_reducible refine (C4.out _).mono ?_); rintro _ _ ⟨rfl, B⟩; (replace BB := bon BB B; replace S0 := smp_below B S0)) | (go_at_call 42; (with_reducible refine (C5.out _).mono ?_); rintro _ _ ⟨rfl, B⟩; (replace BB := bon BB B; replace S0 := smp_below B S0)) | (go_at_call 42; (with_reducible refine (C6.out _).mono ?_); rintro _ _ ⟨rfl, B⟩; (replace BB := bon BB B; replace S0 := smp_below B S0)))
  go_ret
  exact ⟨rfl, BB⟩

set_option maxRecDepth 100000 in
set_option maxHeartbeats 1000000 in
theorem rsval_7 (s : Nat → Int) (w : World) (h0 : 1 ≤ s 0 ∧ s 0 ≤ 4) (h1 : 1 ≤ s 1 ∧ s 1 ≤ 4) (h2 : s 2 = 1 ∨ s 2 = 2) (h3 : s 3 = 1 ∨ s 3 = 2) (h4 : s 4 = 1 ∨ s 4 = 2) (h5 : 0 ≤ s 5 ∧ s 5 ≤ 65536) (h6 : 0 ≤ s 6 ∧ s 6 ≤ 65536) (h7 : ¬ (0 ≤ s 7 ∧ s 7 ≤ 65536)) : Calls Try.prog 21 #[.agg (smps s)] w fun e w' => e = .returned (.bool false) ∧ Below w.heap.size w w' := by
  have BB := box_below w (smps s) 27
  have S0 := smp_box w s 27
  have c0 := fun W => of_q (ravalid_q (s 0) W)
  rw [show avalid (s 0) = true from decide_eq_true h0] at c0
  have C0 := Lib.hid c0
  clear c0
  have c1 := fun W => of_q (ravalid_q (s 1) W)
  rw [show avalid (s 1) = true from decide_eq_true h1] at c1
  have C1 := Lib.hid c1
  clear c1
  have c2 := fun W => of_q (rfilter_q (s 2) W)
  rw [decide_eq_true h2] at c2
  have C2 := Lib.hid c2
  clear c2
  have c3 := fun W => of_q (rfilter_q (s 3) W)
  rw [decide_eq_true h3] at c3
  have C3 := Lib.hid c3
  clear c3
  have c4 := fun W => of_q (rfilter_q (s 4) W)
  rw [decide_eq_true h4] at c4
  have C4 := Lib.hid c4
  clear c4
  have c5 := fun W => of_q (rcomponent_q (s 5) W)
  rw [decide_eq_true h5] at c5
  have C5 := Lib.hid c5
  clear c5
  have c6 := fun W => of_q (rcomponent_q (s 6) W)
  rw [decide_eq_true h6] at c6
  have C6 := Lib.hid c6
  clear c6
  have c7 := fun W => of_q (rcomponent_q (s 7) W)
  rw [decide_eq_false h7] at c7
  have C7 := Lib.hid c7
  clear c7
  clear h0 h1 h2 h3 h4 h5 h6 h7
  go_enter Try.func21, Try.ntmps21
  go_wp2_with (first | (go_at_call 40; (with_reducible refine (C0.out _).mono ?_); rintro _ _ ⟨rfl, B⟩; (replace BB := bon BB B; replace S0 := smp_below B S0)) | (go_at_call 40; (with_reducible refine (C1.out _).mono ?_); rintro _ _ ⟨rfl, B⟩; (replace BB := bon BB B; replace S0 := smp_below B S0)) | (go_at_call 41; (with_reducible refine (C2.out _).mono ?_); rintro _ _ ⟨rfl, B⟩; (replace BB := bon BB B; replace S0 := smp_below B S0)) | (go_at_call 41; (with_reducible refine (C3.out _).mono ?_); rintro _ _ ⟨rfl, B⟩; (replace BB := bon BB B; replace S0 := smp_below B S0)) | (go_at_call 41; (with_reducible refine (C4.out _).mono ?_); rintro _ _ ⟨rfl, B⟩; (replace BB := bon BB B; replace S0 := smp_below B S0)) | (go_at_call 42; (with_reducible refine (C5.out _).mono ?_); rintro _ _ ⟨rfl, B⟩; (replace BB := bon BB B; replace S0 := smp_below B S0)) | (go_at_call 42; (with_reducible refine (C6.out _).mono ?_); rintro _ _ ⟨rfl, B⟩; (replace BB := bon BB B; replace S0 := smp_below B S0)) | (go_at_call 42; (with_reducible refine (C7.out _).mono ?_); rintro _ _ ⟨rfl, B⟩; (replace BB := bon BB B; replace S0 := smp_below B S0)))
  go_ret
  exact ⟨rfl, BB⟩

set_option maxRecDepth 100000 in
set_option maxHeartbeats 1000000 in
theorem rsval_8 (s : Nat → Int) (w : World) (h0 : 1 ≤ s 0 ∧ s 0 ≤ 4) (h1 : 1 ≤ s 1 ∧ s 1 ≤ 4) (h2 : s 2 = 1 ∨ s 2 = 2) (h3 : s 3 = 1 ∨ s 3 = 2) (h4 : s 4 = 1 ∨ s 4 = 2) (h5 : 0 ≤ s 5 ∧ s 5 ≤ 65536) (h6 : 0 ≤ s 6 ∧ s 6 ≤ 65536) (h7 : 0 ≤ s 7 ∧ s 7 ≤ 65536) (h8 : ¬ (0 ≤ s 8 ∧ s 8 ≤ 65536)) : Calls Try.prog 21 #[.agg (smps s)] w fun e w' => e = .returned (.bool false) ∧ Below w.heap.size w w' := by
  have BB := box_below w (smps s) 27
  have S0 := smp_box w s 27
  have c0 := fun W => of_q (ravalid_q (s 0) W)
  rw [show avalid (s 0) = true from decide_eq_true h0] at c0
  have C0 := Lib.hid c0
  clear c0
  have c1 := fun W => of_q (ravalid_q (s 1) W)
  rw [show avalid (s 1) = true from decide_eq_true h1] at c1
  have C1 := Lib.hid c1
  clear c1
  have c2 := fun W => of_q (rfilter_q (s 2) W)
  rw [decide_eq_true h2] at c2
  have C2 := Lib.hid c2
  clear c2
  have c3 := fun W => of_q (rfilter_q (s 3) W)
  rw [decide_eq_true h3] at c3
  have C3 := Lib.hid c3
  clear c3
  have c4 := fun W => of_q (rfilter_q (s 4) W)
  rw [decide_eq_true h4] at c4
  have C4 := Lib.hid c4
  clear c4
  have c5 := fun W => of_q (rcomponent_q (s 5) W)
  rw [decide_eq_true h5] at c5
  have C5 := Lib.hid c5
  clear c5
  have c6 := fun W => of_q (rcomponent_q (s 6) W)
  rw [decide_eq_true h6] at c6
  have C6 := Lib.hid c6
  clear c6
  have c7 := fun W => of_q (rcomponent_q (s 7) W)
  rw [decide_eq_true h7] at c7
  have C7 := Lib.hid c7
  clear c7
  have c8 := fun W => of_q (rcomponent_q (s 8) W)
  rw [decide_eq_false h8] at c8
  have C8 := Lib.hid c8
  clear c8
  clear h0 h1 h2 h3 h4 h5 h6 h7 h8
  go_enter Try.func21, Try.ntmps21
  go_wp2_with (first | (go_at_call 40; (with_reducible refine (C0.out _).mono ?_); rintro _ _ ⟨rfl, B⟩; (replace BB := bon BB B; replace S0 := smp_below B S0)) | (go_at_call 40; (with_reducible refine (C1.out _).mono ?_); rintro _ _ ⟨rfl, B⟩; (replace BB := bon BB B; replace S0 := smp_below B S0)) | (go_at_call 41; (with_reducible refine (C2.out _).mono ?_); rintro _ _ ⟨rfl, B⟩; (replace BB := bon BB B; replace S0 := smp_below B S0)) | (go_at_call 41; (with_reducible refine (C3.out _).mono ?_); rintro _ _ ⟨rfl, B⟩; (replace BB := bon BB B; replace S0 := smp_below B S0)) | (go_at_call 41; (with_reducible refine (C4.out _).mono ?_); rintro _ _ ⟨rfl, B⟩; (replace BB := bon BB B; replace S0 := smp_below B S0)) | (go_at_call 42; (with_reducible refine (C5.out _).mono ?_); rintro _ _ ⟨rfl, B⟩; (replace BB := bon BB B; replace S0 := smp_below B S0)) | (go_at_call 42; (with_reducible refine (C6.out _).mono ?_); rintro _ _ ⟨rfl, B⟩; (replace BB := bon BB B; replace S0 := smp_below B S0)) | (go_at_call 42; (with_reducible refine (C7.out _).mono ?_); rintro _ _ ⟨rfl, B⟩; (replace BB := bon BB B; replace S0 := smp_below B S0)) | (go_at_call 42; (with_reducible refine (C8.out _).mono ?_); rintro _ _ ⟨rfl, B⟩; (replace BB := bon BB B; replace S0 := smp_below B S0)))
  go_ret
  exact ⟨rfl, BB⟩

set_option maxRecDepth 100000 in
set_option maxHeartbeats 1000000 in
theorem rsval_9 (s : Nat → Int) (w : World) (h0 : 1 ≤ s 0 ∧ s 0 ≤ 4) (h1 : 1 ≤ s 1 ∧ s 1 ≤ 4) (h2 : s 2 = 1 ∨ s 2 = 2) (h3 : s 3 = 1 ∨ s 3 = 2) (h4 : s 4 = 1 ∨ s 4 = 2) (h5 : 0 ≤ s 5 ∧ s 5 ≤ 65536) (h6 : 0 ≤ s 6 ∧ s 6 ≤ 65536) (h7 : 0 ≤ s 7 ∧ s 7 ≤ 65536) (h8 : 0 ≤ s 8 ∧ s 8 ≤ 65536) (h9 : ¬ (-524288 ≤ s 9)) : Calls Try.prog 21 #[.agg (smps s)] w fun e w' => e = .returned (.bool false) ∧ Below w.heap.size w w' := by
  have BB := box_below w (smps s) 27
  have S0 := smp_box w s 27
  have c0 := fun W => of_q (ravalid_q (s 0) W)
  rw [show avalid (s 0) = true from decide_eq_true h0] at c0
  have C0 := Lib.hid c0
  clear c0
  have c1 := fun W => of_q (ravalid_q (s 1) W)
  rw [show avalid (s 1) = true from decide_eq_true h1] at c1
  have C1 := Lib.hid c1
  clear c1
  have c2 := fun W => of_q (rfilter_q (s 2) W)
  rw [decide_eq_true h2] at c2
  have C2 := Lib.hid c2
  clear c2
  have c3 := fun W => of_q (rfilter_q (s 3) W)
  rw [decide_eq_true h3] at c3
  have C3 := Lib.hid c3
  clear c3
  have c4 := fun W => of_q (rfilter_q (s 4) W)
  rw [decide_eq_true h4] at c4
  have C4 := Lib.hid c4
  clear c4
  have c5 := fun W => of_q (rcomponent_q (s 5) W)
  rw [decide_eq_true h5] at c5
  have C5 := Lib.hid c5
  clear c5
  have c6 := fun W => of_q (rcomponent_q (s 6) W)
  rw [decide_eq_true h6] at c6
  have C6 := Lib.hid c6
  clear c6
  have c7 := fun W => of_q (rcomponent_q (s 7) W)
  rw [decide_eq_true h7] at c7
  have C7 := Lib.hid c7
  clear c7
  have c8 := fun W => of_q (rcomponent_q (s 8) W)
  rw [decide_eq_true h8] at c8
  have C8 := Lib.hid c8
  clear c8
  have d9 : decide (-524288 ≤ s 9) = false := decide_eq_false h9
  clear h0 h1 h2 h3 h4 h5 h6 h7 h8 h9
  go_enter Try.func21, Try.ntmps21
  go_wp2_with (first | (go_at_call 40; (with_reducible refine (C0.out _).mono ?_); rintro _ _ ⟨rfl, B⟩; (replace BB := bon BB B; replace S0 := smp_below B S0)) | (go_at_call 40; (with_reducible refine (C1.out _).mono ?_); rintro _ _ ⟨rfl, B⟩; (replace BB := bon BB B; replace S0 := smp_below B S0)) | (go_at_call 41; (with_reducible refine (C2.out _).mono ?_); rintro _ _ ⟨rfl, B⟩; (replace BB := bon BB B; replace S0 := smp_below B S0)) | (go_at_call 41; (with_reducible refine (C3.out _).mono ?_); rintro _ _ ⟨rfl, B⟩; (replace BB := bon BB B; replace S0 := smp_below B S0)) | (go_at_call 41; (with_reducible refine (C4.out _).mono ?_); rintro _ _ ⟨rfl, B⟩; (replace BB := bon BB B; replace S0 := smp_below B S0)) | (go_at_call 42; (with_reducible refine (C5.out _).mono ?_); rintro _ _ ⟨rfl, B⟩; (replace BB := bon BB B; replace S0 := smp_below B S0)) | (go_at_call 42; (with_reducible refine (C6.out _).mono ?_); rintro _ _ ⟨rfl, B⟩; (replace BB := bon BB B; replace S0 := smp_below B S0)) | (go_at_call 42; (with_reducible refine (C7.out _).mono ?_); rintro _ _ ⟨rfl, B⟩; (replace BB := bon BB B; replace S0 := smp_below B S0)) | (go_at_call 42; (with_reducible refine (C8.out _).mono ?_); rintro _ _ ⟨rfl, B⟩; (replace BB := bon BB B; replace S0 := smp_below B S0)))
  go_ret
  exact ⟨rfl, BB⟩

set_option maxRecDepth 100000 in
set_option maxHeartbeats 1000000 in
theorem rsval_10 (s : Nat → Int) (w : World) (h0 : 1 ≤ s 0 ∧ s 0 ≤ 4) (h1 : 1 ≤ s 1 ∧ s 1 ≤ 4) (h2 : s 2 = 1 ∨ s 2 = 2) (h3 : s 3 = 1 ∨ s 3 = 2) (h4 : s 4 = 1 ∨ s 4 = 2) (h5 : 0 ≤ s 5 ∧ s 5 ≤ 65536) (h6 : 0 ≤ s 6 ∧ s 6 ≤ 65536) (h7 : 0 ≤ s 7 ∧ s 7 ≤ 65536) (h8 : 0 ≤ s 8 ∧ s 8 ≤ 65536) (h9 : -524288 ≤ s 9) (h10 : ¬ (s 9 ≤ 524288)) : Calls Try.prog 21 #[.agg (smps s)] w fun e w' => e = .returned (.bool false) ∧ Below w.heap.size w w' := by
  have BB := box_below w (smps s) 27
  have S0 := smp_box w s 27
  have c0 := fun W => of_q (ravalid_q (s 0) W)
  rw [show avalid (s 0) = true from decide_eq_true h0] at c0
  have C0 := Lib.hid c0
  clear c0
  have c1 := fun W => of_q (ravalid_q (s 1) W)
  rw [show avalid (s 1) = true from decide_eq_true h1] at c1
  have C1 := Lib.hid c1
  clear c1
  have c2 := fun W => of_q (rfilter_q (s 2) W)
  rw [decide_eq_true h2] at c2
  have C2 := Lib.hid c2
  clear c2
  have c3 := fun W => of_q (rfilter_q (s 3) W)
  rw [decide_eq_true h3] at c3
  have C3 := Lib.hid c3
  clear c3
  have c4 := fun W => of_q (rfilter_q (s 4) W)
  rw [decide_eq_true h4] at c4
  have C4 := Lib.hid c4
  clear c4
  have c5 := fun W => of_q (rcomponent_q (s 5) W)
  rw [decide_eq_true h5] at c5
  have C5 := Lib.hid c5
  clear c5
  have c6 := fun W => of_q (rcomponent_q (s 6) W)
  rw [decide_eq_true h6] at c6
  have C6 := Lib.hid c6
  clear c6
  have c7 := fun W => of_q (rcomponent_q (s 7) W)
  rw [decide_eq_true h7] at c7
  have C7 := Lib.hid c7
  clear c7
  have c8 := fun W => of_q (rcomponent_q (s 8) W)
  rw [decide_eq_true h8] at c8
  have C8 := Lib.hid c8
  clear c8
  have d9 : decide (-524288 ≤ s 9) = true := decide_eq_true h9
  have d10 : decide (s 9 ≤ 524288) = false := decide_eq_false h10
  clear h0 h1 h2 h3 h4 h5 h6 h7 h8 h9 h10
  go_enter Try.func21, Try.ntmps21
  go_wp2_with (first | (go_at_call 40; (with_reducible refine (C0.out _).mono ?_); rintro _ _ ⟨rfl, B⟩; (replace BB := bon BB B; replace S0 := smp_below B S0)) | (go_at_call 40; (with_reducible refine (C1.out _).mono ?_); rintro _ _ ⟨rfl, B⟩; (replace BB := bon BB B; replace S0 := smp_below B S0)) | (go_at_call 41; (with_reducible refine (C2.out _).mono ?_); rintro _ _ ⟨rfl, B⟩; (replace BB := bon BB B; replace S0 := smp_below B S0)) | (go_at_call 41; (with_reducible refine (C3.out _).mono ?_); rintro _ _ ⟨rfl, B⟩; (replace BB := bon BB B; replace S0 := smp_below B S0)) | (go_at_call 41; (with_reducible refine (C4.out _).mono ?_); rintro _ _ ⟨rfl, B⟩; (replace BB := bon BB B; replace S0 := smp_below B S0)) | (go_at_call 42; (with_reducible refine (C5.out _).mono ?_); rintro _ _ ⟨rfl, B⟩; (replace BB := bon BB B; replace S0 := smp_below B S0)) | (go_at_call 42; (with_reducible refine (C6.out _).mono ?_); rintro _ _ ⟨rfl, B⟩; (replace BB := bon BB B; replace S0 := smp_below B S0)) | (go_at_call 42; (with_reducible refine (C7.out _).mono ?_); rintro _ _ ⟨rfl, B⟩; (replace BB := bon BB B; replace S0 := smp_below B S0)) | (go_at_call 42; (with_reducible refine (C8.out _).mono ?_); rintro _ _ ⟨rfl, B⟩; (replace BB := bon BB B; replace S0 := smp_below B S0)))
  go_ret
  exact ⟨rfl, BB⟩

set_option maxRecDepth 100000 in
set_option maxHeartbeats 1000000 in
theorem rsval_11 (s : Nat → Int) (w : World) (h0 : 1 ≤ s 0 ∧ s 0 ≤ 4) (h1 : 1 ≤ s 1 ∧ s 1 ≤ 4) (h2 : s 2 = 1 ∨ s 2 = 2) (h3 : s 3 = 1 ∨ s 3 = 2) (h4 : s 4 = 1 ∨ s 4 = 2) (h5 : 0 ≤ s 5 ∧ s 5 ≤ 65536) (h6 : 0 ≤ s 6 ∧ s 6 ≤ 65536) (h7 : 0 ≤ s 7 ∧ s 7 ≤ 65536) (h8 : 0 ≤ s 8 ∧ s 8 ≤ 65536) (h9 : -524288 ≤ s 9) (h10 : s 9 ≤ 524288) (h11 : ¬ (0 ≤ s 10)) : Calls Try.prog 21 #[.agg (smps s)] w fun e w' => e = .returned (.bool false) ∧ Below w.heap.size w w' := by
  have BB := box_below w (smps s) 27
  have S0 := smp_box w s 27
  have c0 := fun W => of_q (ravalid_q (s 0) W)
  rw [show avalid (s 0) = true from decide_eq_true h0] at c0
  have C0 := Lib.hid c0
  clear c0
  have c1 := fun W => of_q (ravalid_q (s 1) W)
  rw [show avalid (s 1) = true from decide_eq_true h1] at c1
  have C1 := Lib.hid c1
  clear c1
  have c2 := fun W => of_q (rfilter_q (s 2) W)
  rw [decide_eq_true h2] at c2
  have C2 := Lib.hid c2
  clear c2
  have c3 := fun W => of_q (rfilter_q (s 3) W)
  rw [decide_eq_true h3] at c3
  have C3 := Lib.hid c3
  clear c3
  have c4 := fun W => of_q (rfilter_q (s 4) W)
  rw [decide_eq_true h4] at c4
  have C4 := Lib.hid c4
  clear c4
  have c5 := fun W => of_q (rcomponent_q (s 5) W)
  rw [decide_eq_true h5] at c5
  have C5 := Lib.hid c5
  clear c5
  have c6 := fun W => of_q (rcomponent_q (s 6) W)
  rw [decide_eq_true h6] at c6
  have C6 := Lib.hid c6
  clear c6
  have c7 := fun W => of_q (rcomponent_q (s 7) W)
  rw [decide_eq_true h7] at c7
  have C7 := Lib.hid c7
  clear c7
  have c8 := fun W => of_q (rcomponent_q (s 8) W)
  rw [decide_eq_true h8] at c8
  have C8 := Lib.hid c8
  clear c8
  have d9 : decide (-524288 ≤ s 9) = true := decide_eq_true h9
  have d10 : decide (s 9 ≤ 524288) = true := decide_eq_true h10
  have d11 : decide (0 ≤ s 10) = false := decide_eq_false h11
  clear h0 h1 h2 h3 h4 h5 h6 h7 h8 h9 h10 h11
  go_enter Try.func21, Try.ntmps21
  go_wp2_with (first | (go_at_call 40; (with_reducible refine (C0.out _).mono ?_); rintro _ _ ⟨rfl, B⟩; (replace BB := bon BB B; replace S0 := smp_below B S0)) | (go_at_call 40; (with_reducible refine (C1.out _).mono ?_); rintro _ _ ⟨rfl, B⟩; (replace BB := bon BB B; replace S0 := smp_below B S0)) | (go_at_call 41; (with_reducible refine (C2.out _).mono ?_); rintro _ _ ⟨rfl, B⟩; (replace BB := bon BB B; replace S0 := smp_below B S0)) | (go_at_call 41; (with_reducible refine (C3.out _).mono ?_); rintro _ _ ⟨rfl, B⟩; (replace BB := bon BB B; replace S0 := smp_below B S0)) | (go_at_call 41; (with_reducible refine (C4.out _).mono ?_); rintro _ _ ⟨rfl, B⟩; (replace BB := bon BB B; replace S0 := smp_below B S0)) | (go_at_call 42; (with_reducible refine (C5.out _).mono ?_); rintro _ _ ⟨rfl, B⟩; (replace BB := bon BB B; replace S0 := smp_below B S0)) | (go_at_call 42; (with_reducible refine (C6.out _).mono ?_); rintro _ _ ⟨rfl, B⟩; (replace BB := bon BB B; replace S0 := smp_below B S0)) | (go_at_call 42; (with_reducible refine (C7.out _).mono ?_); rintro _ _ ⟨rfl, B⟩; (replace BB := bon BB B; replace S0 := smp_below B S0)) | (go_at_call 42; (with_reducible refine (C8.out _).mono ?_); rintro _ _ ⟨rfl, B⟩; (replace BB := bon BB B; replace S0 := smp_below B S0)))
  go_ret
  exact ⟨rfl, BB⟩

set_option maxRecDepth 100000 in
set_option maxHeartbeats 1000000 in
theorem rsval_12 (s : Nat → Int) (w : World) (h0 : 1 ≤ s 0 ∧ s 0 ≤ 4) (h1 : 1 ≤ s 1 ∧ s 1 ≤ 4) (h2 : s 2 = 1 ∨ s 2 = 2) (h3 : s 3 = 1 ∨ s 3 = 2) (h4 : s 4 = 1 ∨ s 4 = 2) (h5 : 0 ≤ s 5 ∧ s 5 ≤ 65536) (h6 : 0 ≤ s 6 ∧ s 6 ≤ 65536) (h7 : 0 ≤ s 7 ∧ s 7 ≤ 65536) (h8 : 0 ≤ s 8 ∧ s 8 ≤ 65536) (h9 : -524288 ≤ s 9) (h10 : s 9 ≤ 524288) (h11 : 0 ≤ s 10) (h12 : ¬ (s 10 ≤ s 11)) : Calls Try.prog 21 #[.agg (smps s)] w fun e w' => e = .returned (.bool false) ∧ Below w.heap.size w w' := by
  have BB := box_below w (smps s) 27
  have S0 := smp_box w s 27
  have c0 := fun W => of_q (ravalid_q (s 0) W)
  rw [show avalid (s 0) = true from decide_eq_true h0] at c0
  have C0 := Lib.hid c0
  clear c0
  have c1 := fun W => of_q (ravalid_q (s 1) W)
  rw [show avalid (s 1) = true from decide_eq_true h1] at c1
  have C1 := Lib.hid c1
  clear c1
  have c2 := fun W => of_q (rfilter_q (s 2) W)
  rw [decide_eq_true h2] at c2
  have C2 := Lib.hid c2
  clear c2
  have c3 := fun W => of_q (rfilter_q (s 3) W)
  rw [decide_eq_true h3] at c3
  have C3 := Lib.hid c3
  clear c3
  have c4 := fun W => of_q (rfilter_q (s 4) W)
  rw [decide_eq_true h4] at c4
  have C4 := Lib.hid c4
  clear c4
  have c5 := fun W => of_q (rcomponent_q (s 5) W)
  rw [decide_eq_true h5] at c5
  have C5 := Lib.hid c5
  clear c5
  have c6 := fun W => of_q (rcomponent_q (s 6) W)
  rw [decide_eq_true h6] at c6
  have C6 := Lib.hid c6
  clear c6
  have c7 := fun W => of_q (rcomponent_q (s 7) W)
  rw [decide_eq_true h7] at c7
  have C7 := Lib.hid c7
  clear c7
  have c8 := fun W => of_q (rcomponent_q (s 8) W)
  rw [decide_eq_true h8] at c8
  have C8 := Lib.hid c8
  clear c8
  have d9 : decide (-524288 ≤ s 9) = true := decide_eq_true h9
  have d10 : decide (s 9 ≤ 524288) = true := decide_eq_true h10
  have d11 : decide (0 ≤ s 10) = true := decide_eq_true h11
  have d12 : decide (s 10 ≤ s 11) = false := decide_eq_false h12
  clear h0 h1 h2 h3 h4 h5 h6 h7 h8 h9 h10 h11 h12
  go_enter Try.func21, Try.ntmps21
  go_wp2_with (first | (go_at_call 40; (with_reducible refine (C0.out _).mono ?_); rintro _ _ ⟨rfl, B⟩; (replace BB := bon BB B; replace S0 := smp_below B S0)) | (go_at_call 40; (with_reducible refine (C1.out _).mono ?_); rintro _ _ ⟨rfl, B⟩; (replace BB := bon BB B; replace S0 := smp_below B S0)) | (go_at_call 41; (with_reducible refine (C2.out _).mono ?_); rintro _ _ ⟨rfl, B⟩; (replace BB := bon BB B; replace S0 := smp_below B S0)) | (go_at_call 41; (with_reducible refine (C3.out _).mono ?_); rintro _ _ ⟨rfl, B⟩; (replace BB := bon BB B; replace S0 := smp_below B S0)) | (go_at_call 41; (with_reducible refine (C4.out _).mono ?_); rintro _ _ ⟨rfl, B⟩; (replace BB := bon BB B; replace S0 := smp_below B S0)) | (go_at_call 42; (with_reducible refine (C5.out _).mono ?_); rintro _ _ ⟨rfl, B⟩; (replace BB := bon BB B; replace S0 := smp_below B S0)) | (go_at_call 42; (with_reducible refine (C6.out _).mono ?_); rintro _ _ ⟨rfl, B⟩; (replace BB := bon BB B; replace S0 := smp_below B S0)) | (go_at_call 42; (with_reducible refine (C7.out _).mono ?_); rintro _ _ ⟨rfl, B⟩; (replace BB := bon BB B; replace S0 := smp_below B S0)) | (go_at_call 42; (with_reducible refine (C8.out _).mono ?_); rintro _ _ ⟨rfl, B⟩; (replace BB := bon BB B; replace S0 := smp_below B S0)))
  go_ret
  exact ⟨rfl, BB⟩

set_option maxRecDepth 100000 in
set_option maxHeartbeats 1000000 in
theorem rsval_13 (s : Nat → Int) (w : World) (h0 : 1 ≤ s 0 ∧ s 0 ≤ 4) (h1 : 1 ≤ s 1 ∧ s 1 ≤ 4) (h2 : s 2 = 1 ∨ s 2 = 2) (h3 : s 3 = 1 ∨ s 3 = 2) (h4 : s 4 = 1 ∨ s 4 = 2) (h5 : 0 ≤ s 5 ∧ s 5 ≤ 65536) (h6 : 0 ≤ s 6 ∧ s 6 ≤ 65536) (h7 : 0 ≤ s 7 ∧ s 7 ≤ 65536) (h8 : 0 ≤ s 8 ∧ s 8 ≤ 65536) (h9 : -524288 ≤ s 9) (h10 : s 9 ≤ 524288) (h11 : 0 ≤ s 10) (h12 : s 10 ≤ s 11) (h13 : ¬ (s 11 ≤ 524288)) : Calls Try.prog 21 #[.agg (smps s)] w fun e w' => e = .returned (.bool false) ∧ Below w.heap.size w w' := by
  have BB := box_below w (smps s) 27
  have S0 := smp_box w s 27
  have c0 := fun W => of_q (ravalid_q (s 0) W)
  rw [show avalid (s 0) = true from decide_eq_true h0] at c0
  have C0 := Lib.hid c0
  clear c0
  have c1 := fun W => of_q (ravalid_q (s 1) W)
  rw [show avalid (s 1) = true from decide_eq_true h1] at c1
  have C1 := Lib.hid c1
  clear c1
  have c2 := fun W => of_q (rfilter_q (s 2) W)
  rw [decide_eq_true h2] at c2
  have C2 := Lib.hid c2
  clear c2
  have c3 := fun W => of_q (rfilter_q (s 3) W)
  rw [decide_eq_true h3] at c3
  have C3 := Lib.hid c3
  clear c3
  have c4 := fun W => of_q (rfilter_q (s 4) W)
  rw [decide_eq_true h4] at c4
  have C4 := Lib.hid c4
  clear c4
  have c5 := fun W => of_q (rcomponent_q (s 5) W)
  rw [decide_eq_true h5] at c5
  have C5 := Lib.hid c5
  clear c5
  have c6 := fun W => of_q (rcomponent_q (s 6) W)
  rw [decide_eq_true h6] at c6
  have C6 := Lib.hid c6
  clear c6
  have c7 := fun W => of_q (rcomponent_q (s 7) W)
  rw [decide_eq_true h7] at c7
  have C7 := Lib.hid c7
  clear c7
  have c8 := fun W => of_q (rcomponent_q (s 8) W)
  rw [decide_eq_true h8] at c8
  have C8 := Lib.hid c8
  clear c8
  have d9 : decide (-524288 ≤ s 9) = true := decide_eq_true h9
  have d10 : decide (s 9 ≤ 524288) = true := decide_eq_true h10
  have d11 : decide (0 ≤ s 10) = true := decide_eq_true h11
  have d12 : decide (s 10 ≤ s 11) = true := decide_eq_true h12
  have d13 : decide (s 11 ≤ 524288) = false := decide_eq_false h13
  clear h0 h1 h2 h3 h4 h5 h6 h7 h8 h9 h10 h11 h12 h13
  go_enter Try.func21, Try.ntmps21
  go_wp2_with (first | (go_at_call 40; (with_reducible refine (C0.out _).mono ?_); rintro _ _ ⟨rfl, B⟩; (replace BB := bon BB B; replace S0 := smp_below B S0)) | (go_at_call 40; (with_reducible refine (C1.out _).mono ?_); rintro _ _ ⟨rfl, B⟩; (replace BB := bon BB B; replace S0 := smp_below B S0)) | (go_at_call 41; (with_reducible refine (C2.out _).mono ?_); rintro _ _ ⟨rfl, B⟩; (replace BB := bon BB B; replace S0 := smp_below B S0)) | (go_at_call 41; (with_reducible refine (C3.out _).mono ?_); rintro _ _ ⟨rfl, B⟩; (replace BB := bon BB B; replace S0 := smp_below B S0)) | (go_at_call 41; (with_reducible refine (C4.out _).mono ?_); rintro _ _ ⟨rfl, B⟩; (replace BB := bon BB B; replace S0 := smp_below B S0)) | (go_at_call 42; (with_reducible refine (C5.out _).mono ?_); rintro _ _ ⟨rfl, B⟩; (replace BB := bon BB B; replace S0 := smp_below B S0)) | (go_at_call 42; (with_reducible refine (C6.out _).mono ?_); rintro _ _ ⟨rfl, B⟩; (replace BB := bon BB B; replace S0 := smp_below B S0)) | (go_at_call 42; (with_reducible refine (C7.out _).mono ?_); rintro _ _ ⟨rfl, B⟩; (replace BB := bon BB B; replace S0 := smp_below B S0)) | (go_at_call 42; (with_reducible refine (C8.out _).mono ?_); rintro _ _ ⟨rfl, B⟩; (replace BB := bon BB B; replace S0 := smp_below B S0)))
  go_ret
  exact ⟨rfl, BB⟩

set_option maxRecDepth 100000 in
set_option maxHeartbeats 1000000 in
theorem rsval_14 (s : Nat → Int) (w : World) (h0 : 1 ≤ s 0 ∧ s 0 ≤ 4) (h1 : 1 ≤ s 1 ∧ s 1 ≤ 4) (h2 : s 2 = 1 ∨ s 2 = 2) (h3 : s 3 = 1 ∨ s 3 = 2) (h4 : s 4 = 1 ∨ s 4 = 2) (h5 : 0 ≤ s 5 ∧ s 5 ≤ 65536) (h6 : 0 ≤ s 6 ∧ s 6 ≤ 65536) (h7 : 0 ≤ s 7 ∧ s 7 ≤ 65536) (h8 : 0 ≤ s 8 ∧ s 8 ≤ 65536) (h9 : -524288 ≤ s 9) (h10 : s 9 ≤ 524288) (h11 : 0 ≤ s 10) (h12 : s 10 ≤ s 11) (h13 : s 11 ≤ 524288) : Calls Try.prog 21 #[.agg (smps s)] w fun e w' => e = .returned (.bool true) ∧ Below w.heap.size w w' := by
  have BB := box_below w (smps s) 27
  have S0 := smp_box w s 27
  have c0 := fun W => of_q (ravalid_q (s 0) W)
  rw [show avalid (s 0) = true from decide_eq_true h0] at c0
  have C0 := Lib.hid c0
  clear c0
  have c1 := fun W => of_q (ravalid_q (s 1) W)
  rw [show avalid (s 1) = true from decide_eq_true h1] at c1
  have C1 := Lib.hid c1
  clear c1
  have c2 := fun W => of_q (rfilter_q (s 2) W)
  rw [decide_eq_true h2] at c2
  have C2 := Lib.hid c2
  clear c2
  have c3 := fun W => of_q (rfilter_q (s 3) W)
  rw [decide_eq_true h3] at c3
  have C3 := Lib.hid c3
  clear c3
  have c4 := fun W => of_q (rfilter_q (s 4) W)
  rw [decide_eq_true h4] at c4
  have C4 := Lib.hid c4
  clear c4
  have c5 := fun W => of_q (rcomponent_q (s 5) W)
  rw [decide_eq_true h5] at c5
  have C5 := Lib.hid c5
  clear c5
  have c6 := fun W => of_q (rcomponent_q (s 6) W)
  rw [decide_eq_true h6] at c6
  have C6 := Lib.hid c6
  clear c6
  have c7 := fun W => of_q (rcomponent_q (s 7) W)
  rw [decide_eq_true h7] at c7
  have C7 := Lib.hid c7
  clear c7
  have c8 := fun W => of_q (rcomponent_q (s 8) W)
  rw [decide_eq_true h8] at c8
  have C8 := Lib.hid c8
  clear c8
  have d9 : decide (-524288 ≤ s 9) = true := decide_eq_true h9
  have d10 : decide (s 9 ≤ 524288) = true := decide_eq_true h10
  have d11 : decide (0 ≤ s 10) = true := decide_eq_true h11
  have d12 : decide (s 10 ≤ s 11) = true := decide_eq_true h12
  have d13 : decide (s 11 ≤ 524288) = true := decide_eq_true h13
  clear h0 h1 h2 h3 h4 h5 h6 h7 h8 h9 h10 h11 h12 h13
  go_enter Try.func21, Try.ntmps21
  go_wp2_with (first | (go_at_call 40; (with_reducible refine (C0.out _).mono ?_); rintro _ _ ⟨rfl, B⟩; (replace BB := bon BB B; replace S0 := smp_below B S0)) | (go_at_call 40; (with_reducible refine (C1.out _).mono ?_); rintro _ _ ⟨rfl, B⟩; (replace BB := bon BB B; replace S0 := smp_below B S0)) | (go_at_call 41; (with_reducible refine (C2.out _).mono ?_); rintro _ _ ⟨rfl, B⟩; (replace BB := bon BB B; replace S0 := smp_below B S0)) | (go_at_call 41; (with_reducible refine (C3.out _).mono ?_); rintro _ _ ⟨rfl, B⟩; (replace BB := bon BB B; replace S0 := smp_below B S0)) | (go_at_call 41; (with_reducible refine (C4.out _).mono ?_); rintro _ _ ⟨rfl, B⟩; (replace BB := bon BB B; replace S0 := smp_below B S0)) | (go_at_call 42; (with_reducible refine (C5.out _).mono ?_); rintro _ _ ⟨rfl, B⟩; (replace BB := bon BB B; replace S0 := smp_below B S0)) | (go_at_call 42; (with_reducible refine (C6.out _).mono ?_); rintro _ _ ⟨rfl, B⟩; (replace BB := bon BB B; replace S0 := smp_below B S0)) | (go_at_call 42; (with_reducible refine (C7.out _).mono ?_); rintro _ _ ⟨rfl, B⟩; (replace BB := bon BB B; replace S0 := smp_below B S0)) | (go_at_call 42; (with_reducible refine (C8.out _).mono ?_); rintro _ _ ⟨rfl, B⟩; (replace BB := bon BB B; replace S0 := smp_below B S0)))
  go_ret
  exact ⟨rfl, BB⟩

theorem rsval_b (s : Nat → Int) (w : World) : Calls Try.prog 21 #[.agg (smps s)] w fun e w' => e = .returned (.bool (decide (SV s))) ∧ Below w.heap.size w w' := by
  by_cases h0 : 1 ≤ s 0 ∧ s 0 ≤ 4
  rotate_left
  · rw [decide_eq_false (show ¬ SV s from fun k => h0 k.1.1)]
    exact rsval_0 s w h0
  by_cases h1 : 1 ≤ s 1 ∧ s 1 ≤ 4
  rotate_left
  · rw [decide_eq_false (show ¬ SV s from fun k => h1 k.1.2.1)]
    exact rsval_1 s w h0 h1
  by_cases h2 : s 2 = 1 ∨ s 2 = 2
  rotate_left
  · rw [decide_eq_false (show ¬ SV s from fun k => h2 k.1.2.2.1)]
    exact rsval_2 s w h0 h1 h2
  by_cases h3 : s 3 = 1 ∨ s 3 = 2
  rotate_left
  · rw [decide_eq_false (show ¬ SV s from fun k => h3 k.1.2.2.2.1)]
    exact rsval_3 s w h0 h1 h2 h3
  by_cases h4 : s 4 = 1 ∨ s 4 = 2
  rotate_left
  · rw [decide_eq_false (show ¬ SV s from fun k => h4 k.1.2.2.2.2)]
    exact rsval_4 s w h0 h1 h2 h3 h4
  by_cases h5 : 0 ≤ s 5 ∧ s 5 ≤ 65536
  rotate_left
  · rw [decide_eq_false (show ¬ SV s from fun k => h5 k.2.1.1)]
    exact rsval_5 s w h0 h1 h2 h3 h4 h5
  by_cases h6 : 0 ≤ s 6 ∧ s 6 ≤ 65536
  rotate_left
  · rw [decide_eq_false (show ¬ SV s from fun k => h6 k.2.1.2.1)]
    exact rsval_6 s w h0 h1 h2 h3 h4 h5 h6
  by_cases h7 : 0 ≤ s 7 ∧ s 7 ≤ 65536
  rotate_left
  · rw [decide_eq_false (show ¬ SV s from fun k => h7 k.2.1.2.2.1)]
    exact rsval_7 s w h0 h1 h2 h3 h4 h5 h6 h7
  by_cases h8 : 0 ≤ s 8 ∧ s 8 ≤ 65536
  rotate_left
  · rw [decide_eq_false (show ¬ SV s from fun k => h8 k.2.1.2.2.2)]
    exact rsval_8 s w h0 h1 h2 h3 h4 h5 h6 h7 h8
  by_cases h9 : -524288 ≤ s 9
  rotate_left
  · rw [decide_eq_false (show ¬ SV s from fun k => h9 k.2.2.1)]
    exact rsval_9 s w h0 h1 h2 h3 h4 h5 h6 h7 h8 h9
  by_cases h10 : s 9 ≤ 524288
  rotate_left
  · rw [decide_eq_false (show ¬ SV s from fun k => h10 k.2.2.2.1)]
    exact rsval_10 s w h0 h1 h2 h3 h4 h5 h6 h7 h8 h9 h10
  by_cases h11 : 0 ≤ s 10
  rotate_left
  · rw [decide_eq_false (show ¬ SV s from fun k => h11 k.2.2.2.2.1)]
    exact rsval_11 s w h0 h1 h2 h3 h4 h5 h6 h7 h8 h9 h10 h11
  by_cases h12 : s 10 ≤ s 11
  rotate_left
  · rw [decide_eq_false (show ¬ SV s from fun k => h12 k.2.2.2.2.2.1)]
    exact rsval_12 s w h0 h1 h2 h3 h4 h5 h6 h7 h8 h9 h10 h11 h12
  by_cases h13 : s 11 ≤ 524288
  rotate_left
  · rw [decide_eq_false (show ¬ SV s from fun k => h13 k.2.2.2.2.2.2)]
    exact rsval_13 s w h0 h1 h2 h3 h4 h5 h6 h7 h8 h9 h10 h11 h12 h13
  rw [decide_eq_true (show SV s from ⟨⟨h0, h1, h2, h3, h4⟩, ⟨h5, h6, h7, h8⟩, h9, h10, h11, h12, h13⟩)]
  exact rsval_14 s w h0 h1 h2 h3 h4 h5 h6 h7 h8 h9 h10 h11 h12 h13

end Go.Proofs.Ytoipmldbjciinaa
