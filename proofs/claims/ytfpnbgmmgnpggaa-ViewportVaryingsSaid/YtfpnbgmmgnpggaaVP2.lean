/- What span, difference, Depth, Contains of package viewport and of the reference return. -/
import Derived.Test.YtfpnbgmmgnpggaaVP1
namespace Go.Proofs.Ytfpnbgmmgnpggaa
set_option linter.unusedSimpArgs false
open Go.RowKit Go.Sort Go.ChangeShapes Go.WideShapes
set_option linter.unusedVariables false

theorem span_up (lo hi : Int) (h : ¬ hi < lo) (h1 : -9223372036854775808 ≤ lo) (h2 : hi ≤ 9223372036854775807) (w : World) : Calls Try.prog 38 #[.int .i64 lo, .int .i64 hi] w fun e w' => e = .returned (.int .i64 (sat (hi - lo))) ∧ Below w.heap.size w w' := by
  have hs : sat (hi - lo) = min (hi - lo) 536870911 := by unfold sat; grind
  have e1 : IntKind.u64.wrap (IntKind.u64.wrap hi - IntKind.u64.wrap lo) = hi - lo := by simp only [IntKind.wrap_u64]; omega
  have e2 : (IntKind.u64.wrap hi - IntKind.u64.wrap lo) % 18446744073709551616 = hi - lo := by simp only [IntKind.wrap_u64]; omega
  go_enter Try.func38, Try.ntmps38
  go_wp2
  all_goals go_ret
  all_goals exact ⟨ret_int (by first | omega | (rw [hs]; omega)), Below.refl _ _⟩

theorem span_b (lo hi : Int) (h1 : -9223372036854775808 ≤ lo ∧ lo ≤ 9223372036854775807) (h2 : -9223372036854775808 ≤ hi ∧ hi ≤ 9223372036854775807) (w : World) : Calls Try.prog 38 #[.int .i64 lo, .int .i64 hi] w fun e w' => e = .returned (.int .i64 (sat (hi - lo))) ∧ Below w.heap.size w w' := by
  by_cases h : hi < lo
  · have BB := Below.refl w.heap.size w
    have hb := sat_bd (lo - hi)
    have HS := Lib.hid (span_up hi lo (by omega) h2.1 h1.2)
    have HE : Hid (sat (hi - lo) = -sat (lo - hi)) := Lib.hid (by rw [← sat_neg]; congr 1; omega)
    obtain ⟨s, hs⟩ : ∃ s, sat (lo - hi) = s := ⟨_, rfl⟩
    rw [hs] at hb HS HE
    obtain ⟨hb1, hb2⟩ := hb
    clear hs h1 h2
    go_enter Try.func38, Try.ntmps38
    go_wp2_with (first | (go_at_call 38; refine (HS.out _).mono ?_; rintro _ _ ⟨rfl, B⟩; replace BB := bon BB B))
    go_ret
    exact ⟨ret_int HE.out.symm, BB⟩
  · exact span_up lo hi h h1.1 h2.2 w

set_option maxRecDepth 100000 in
set_option maxHeartbeats 1000000 in
theorem diff_b (a b : Int) (h1 : -9223372036854775808 ≤ a ∧ a ≤ 9223372036854775807) (h2 : -9223372036854775808 ≤ b ∧ b ≤ 9223372036854775807) (w : World) : Calls Try.prog 41 #[.int .i64 a, .int .i64 b] w fun e w' => e = .returned (.int .i64 (sat (a - b))) ∧ Below w.heap.size w w' := by
  have BB := Below.refl w.heap.size w
  obtain ⟨h11, h12⟩ := h1
  obtain ⟨h21, h22⟩ := h2
  rcases (show (0 ≤ a ∧ b < 0 ∧ 536870911 < a) ∨ (0 ≤ a ∧ b < 0 ∧ a ≤ 536870911 ∧ b < -536870911) ∨ (0 ≤ a ∧ b < 0 ∧ a ≤ 536870911 ∧ -536870911 ≤ b) ∨ (0 ≤ a ∧ 0 ≤ b) ∨ (a < 0 ∧ b < 0) ∨ (a < 0 ∧ 0 ≤ b ∧ a < -536870911) ∨ (a < 0 ∧ 0 ≤ b ∧ -536870911 ≤ a ∧ 536870911 < b) ∨ (a < 0 ∧ 0 ≤ b ∧ -536870911 ≤ a ∧ b ≤ 536870911) by omega) with ⟨q1, q2, q3⟩ | ⟨q1, q2, q3, q4⟩ | ⟨q1, q2, q3, q4⟩ | ⟨q1, q2⟩ | ⟨q1, q2⟩ | ⟨q1, q2, q3⟩ | ⟨q1, q2, q3, q4⟩ | ⟨q1, q2, q3, q4⟩
  all_goals
    go_enter Try.func41, Try.ntmps41
    go_wp2_with (first | (go_at_call 43; refine (rsaturate_b _ _).mono ?_; rintro _ _ ⟨rfl, B⟩; replace BB := bon BB B))
    all_goals go_ret
    all_goals exact ⟨ret_int (by first | rfl | (unfold sat; grind)), BB⟩

set_option maxRecDepth 100000 in
set_option maxHeartbeats 1000000 in
theorem depth_b (x y ww hh mn mx : Int) (h4 : -9223372036854775808 ≤ mn ∧ mn ≤ 9223372036854775807) (h5 : -9223372036854775808 ≤ mx ∧ mx ≤ 9223372036854775807) (z v : Int) (w : World) : Calls Try.prog 20 #[.agg #[.int .i64 x, .int .i64 y, .int .i64 ww, .int .i64 hh, .int .i64 mn, .int .i64 mx], .int .i64 z, .int .i64 v] w fun e w' => e = .returned (.int .i64 (depthv mn mx z v)) ∧ Below w.heap.size w w' := by
  have BB := box_below w #[.int .i64 x, .int .i64 y, .int .i64 ww, .int .i64 hh, .int .i64 mn, .int .i64 mx] 23
  have X0 := EBox.made w #[.int .i64 x, .int .i64 y, .int .i64 ww, .int .i64 hh, .int .i64 mn, .int .i64 mx] 23
  have c0 := X0.cell (i := 0) rfl
  have c1 := X0.cell (i := 1) rfl
  have c2 := X0.cell (i := 2) rfl
  have c3 := X0.cell (i := 3) rfl
  have c4 := X0.cell (i := 4) rfl
  have c5 := X0.cell (i := 5) rfl
  have Evp := range_cut X0.1 0 6
  simp only [List.drop_succ_cons, List.drop_zero, List.take_succ_cons, List.take_zero, Nat.zero_add] at Evp
  clear X0
  have HS := Lib.hid (span_b mn mx h4 h5)
  clear c0 c1 c2 c3 Evp h4 h5
  go_enter Try.func20, Try.ntmps20
  go_wp2_with (first | (go_at_call 30; refine (clamp_b _ _ _ _).mono ?_; rintro _ _ ⟨rfl, B⟩; replace BB := bon BB B; replace c4 := cell_below B c4; replace c5 := cell_below B c5) | (go_at_call 31; refine (ovw_b _ _ _).mono ?_; rintro _ _ ⟨rfl, B⟩; replace BB := bon BB B; replace c4 := cell_below B c4; replace c5 := cell_below B c5))
  have k_c4 := cell_regrown c4
  have k_c5 := cell_regrown c5
  refine wp_region_quiet_below (by kernel_rfl) (by kernel_rfl) ?_
  repeat (first | go_big_quiet_step ((first | (go_at_call 36; exact Calls.regrown_of (add_b _ _ _)) | (go_at_call 37; exact Calls.regrown_of (mul_b _ _ _)) | (go_at_call 38; exact Calls.regrown_of (HS.out _)))) | quiet_step ((first | (go_at_call 36; exact Calls.regrown_of (add_b _ _ _)) | (go_at_call 37; exact Calls.regrown_of (mul_b _ _ _)) | (go_at_call 38; exact Calls.regrown_of (HS.out _)))))
  refine wpQuiet_nil ?_
  intro W hw'
  have B := below_regrown' hw'
  clear hw' k_c4 k_c5
  replace BB := bon BB B
  replace c4 := cell_below B c4
  replace c5 := cell_below B c5
  go_wp2
  go_ret
  exact ⟨rfl, BB⟩

set_option maxRecDepth 100000 in
set_option maxHeartbeats 1000000 in
theorem rdepth_b (x y ww hh mn mx : Int) (h4 : -9223372036854775808 ≤ mn ∧ mn ≤ 9223372036854775807) (h5 : -9223372036854775808 ≤ mx ∧ mx ≤ 9223372036854775807) (z v : Int) (w : World) : Calls Try.prog 21 #[.agg #[.int .i64 x, .int .i64 y, .int .i64 ww, .int .i64 hh, .int .i64 mn, .int .i64 mx], .int .i64 z, .int .i64 v] w fun e w' => e = .returned (.int .i64 (depthv mn mx z v)) ∧ Below w.heap.size w w' := by
  have BB := box_below w #[.int .i64 x, .int .i64 y, .int .i64 ww, .int .i64 hh, .int .i64 mn, .int .i64 mx] 23
  have X0 := EBox.made w #[.int .i64 x, .int .i64 y, .int .i64 ww, .int .i64 hh, .int .i64 mn, .int .i64 mx] 23
  have c0 := X0.cell (i := 0) rfl
  have c1 := X0.cell (i := 1) rfl
  have c2 := X0.cell (i := 2) rfl
  have c3 := X0.cell (i := 3) rfl
  have c4 := X0.cell (i := 4) rfl
  have c5 := X0.cell (i := 5) rfl
  have Evp := range_cut X0.1 0 6
  simp only [List.drop_succ_cons, List.drop_zero, List.take_succ_cons, List.take_zero, Nat.zero_add] at Evp
  clear X0
  have HS := Lib.hid (diff_b mx mn h5 h4)
  clear c0 c1 c2 c3 Evp h4 h5
  unfold depthv ovw
  rcases (show 256 ≤ v ∨ v < 256 by omega) with hv | hv
  · rw [show max v 256 = v by omega]
    go_enter Try.func21, Try.ntmps21
    go_wp2_with (first | (go_at_call 33; refine (rclamp_b _ _ _ _).mono ?_; rintro _ _ ⟨rfl, B⟩; replace BB := bon BB B; replace c4 := cell_below B c4; replace c5 := cell_below B c5) | (go_at_call 34; refine (rdiv_b _ _ _).mono ?_; rintro _ _ ⟨rfl, B⟩; replace BB := bon BB B; replace c4 := cell_below B c4; replace c5 := cell_below B c5))
    have k_c4 := cell_regrown c4
    have k_c5 := cell_regrown c5
    refine wp_region_quiet_below (by kernel_rfl) (by kernel_rfl) ?_
    repeat (first | go_big_quiet_step ((first | (go_at_call 39; exact Calls.regrown_of (radd_b _ _ _)) | (go_at_call 40; exact Calls.regrown_of (rmul_b _ _ _)) | (go_at_call 41; exact Calls.regrown_of (HS.out _)))) | quiet_step ((first | (go_at_call 39; exact Calls.regrown_of (radd_b _ _ _)) | (go_at_call 40; exact Calls.regrown_of (rmul_b _ _ _)) | (go_at_call 41; exact Calls.regrown_of (HS.out _)))))
    refine wpQuiet_nil ?_
    intro W hw'
    have B := below_regrown' hw'
    clear hw' k_c4 k_c5
    replace BB := bon BB B
    replace c4 := cell_below B c4
    replace c5 := cell_below B c5
    go_wp2
    go_ret
    exact ⟨rfl, BB⟩
  · rw [show max v 256 = 256 by omega]
    go_enter Try.func21, Try.ntmps21
    go_wp2_with (first | (go_at_call 33; refine (rclamp_b _ _ _ _).mono ?_; rintro _ _ ⟨rfl, B⟩; replace BB := bon BB B; replace c4 := cell_below B c4; replace c5 := cell_below B c5) | (go_at_call 34; refine (rdiv_b _ _ _).mono ?_; rintro _ _ ⟨rfl, B⟩; replace BB := bon BB B; replace c4 := cell_below B c4; replace c5 := cell_below B c5))
    have k_c4 := cell_regrown c4
    have k_c5 := cell_regrown c5
    refine wp_region_quiet_below (by kernel_rfl) (by kernel_rfl) ?_
    repeat (first | go_big_quiet_step ((first | (go_at_call 39; exact Calls.regrown_of (radd_b _ _ _)) | (go_at_call 40; exact Calls.regrown_of (rmul_b _ _ _)) | (go_at_call 41; exact Calls.regrown_of (HS.out _)))) | quiet_step ((first | (go_at_call 39; exact Calls.regrown_of (radd_b _ _ _)) | (go_at_call 40; exact Calls.regrown_of (rmul_b _ _ _)) | (go_at_call 41; exact Calls.regrown_of (HS.out _)))))
    refine wpQuiet_nil ?_
    intro W hw'
    have B := below_regrown' hw'
    clear hw' k_c4 k_c5
    replace BB := bon BB B
    replace c4 := cell_below B c4
    replace c5 := cell_below B c5
    go_wp2
    go_ret
    exact ⟨rfl, BB⟩

set_option maxRecDepth 100000 in
set_option maxHeartbeats 1000000 in
theorem btw_b (low size x : Int) (h1 : -9223372036854775808 ≤ low ∧ low ≤ 9223372036854775807) (h2 : -9223372036854775808 ≤ size ∧ size ≤ 9223372036854775807) (h3 : -9223372036854775808 ≤ x ∧ x ≤ 9223372036854775807) (w : World) : Calls Try.prog 27 #[.int .i64 low, .int .i64 size, .int .i64 x] w fun e w' => e = .returned (.bool (btw low size x)) ∧ Below w.heap.size w w' := by
  obtain ⟨h11, h12⟩ := h1
  obtain ⟨h21, h22⟩ := h2
  obtain ⟨h31, h32⟩ := h3
  unfold btw
  rcases (show size ≤ 0 ∧ x < low ∨ size ≤ 0 ∧ low ≤ x ∨ 0 < size ∧ x < low ∨ 0 < size ∧ low ≤ x by omega) with ⟨q1, q2⟩ | ⟨q1, q2⟩ | ⟨q1, q2⟩ | ⟨q1, q2⟩
  · go_enter Try.func27, Try.ntmps27
    go_wp2
    all_goals go_ret
    all_goals exact ⟨ret_bool (by first | rfl | (simp; done) | (simp; omega) | (simp_all; done) | (simp_all; omega)), Below.refl _ _⟩
  · go_enter Try.func27, Try.ntmps27
    go_wp2
    all_goals go_ret
    all_goals exact ⟨ret_bool (by first | rfl | (simp; done) | (simp; omega) | (simp_all; done) | (simp_all; omega)), Below.refl _ _⟩
  · go_enter Try.func27, Try.ntmps27
    go_wp2
    all_goals go_ret
    all_goals exact ⟨ret_bool (by first | rfl | (simp; done) | (simp; omega) | (simp_all; done) | (simp_all; omega)), Below.refl _ _⟩
  · have e1 : IntKind.u64.wrap (IntKind.u64.wrap x - IntKind.u64.wrap low) = x - low := by simp only [IntKind.wrap_u64]; omega
    have e2 : (IntKind.u64.wrap x - IntKind.u64.wrap low) % 18446744073709551616 = x - low := by simp only [IntKind.wrap_u64]; omega
    go_enter Try.func27, Try.ntmps27
    go_wp2
    all_goals go_ret
    all_goals exact ⟨ret_bool (by first | rfl | (simp; done) | (simp; omega) | (simp_all; done) | (simp_all; omega) | (rw [Bool.eq_iff_iff]; simp; omega)), Below.refl _ _⟩

set_option maxRecDepth 100000 in
set_option maxHeartbeats 1000000 in
theorem rbtw_b (low size x : Int) (h1 : -9223372036854775808 ≤ low ∧ low ≤ 9223372036854775807) (h2 : -9223372036854775808 ≤ size ∧ size ≤ 9223372036854775807) (h3 : -9223372036854775808 ≤ x ∧ x ≤ 9223372036854775807) (w : World) : Calls Try.prog 28 #[.int .i64 low, .int .i64 size, .int .i64 x] w fun e w' => e = .returned (.bool (btw low size x)) ∧ Below w.heap.size w w' := by
  obtain ⟨h11, h12⟩ := h1
  obtain ⟨h21, h22⟩ := h2
  obtain ⟨h31, h32⟩ := h3
  unfold btw
  rcases (show size ≤ 0 ∧ x < low ∨ size ≤ 0 ∧ low ≤ x ∨ 0 < size ∧ x < low ∨ 0 < size ∧ low ≤ x by omega) with ⟨q1, q2⟩ | ⟨q1, q2⟩ | ⟨q1, q2⟩ | ⟨q1, q2⟩
  · go_enter Try.func28, Try.ntmps28
    go_wp2
    all_goals go_ret
    all_goals exact ⟨ret_bool (by first | rfl | (simp; done) | (simp; omega) | (simp_all; done) | (simp_all; omega)), Below.refl _ _⟩
  · go_enter Try.func28, Try.ntmps28
    go_wp2
    all_goals go_ret
    all_goals exact ⟨ret_bool (by first | rfl | (simp; done) | (simp; omega) | (simp_all; done) | (simp_all; omega)), Below.refl _ _⟩
  · go_enter Try.func28, Try.ntmps28
    go_wp2
    all_goals go_ret
    all_goals exact ⟨ret_bool (by first | rfl | (simp; done) | (simp; omega) | (simp_all; done) | (simp_all; omega)), Below.refl _ _⟩
  · have e1 : IntKind.u64.wrap (IntKind.u64.wrap x - IntKind.u64.wrap low) = x - low := by simp only [IntKind.wrap_u64]; omega
    have e2 : (IntKind.u64.wrap x - IntKind.u64.wrap low) % 18446744073709551616 = x - low := by simp only [IntKind.wrap_u64]; omega
    go_enter Try.func28, Try.ntmps28
    go_wp2
    all_goals go_ret
    all_goals exact ⟨ret_bool (by first | rfl | (simp; done) | (simp; omega) | (simp_all; done) | (simp_all; omega) | (rw [Bool.eq_iff_iff]; simp; omega)), Below.refl _ _⟩

set_option maxRecDepth 100000 in
set_option maxHeartbeats 1000000 in
theorem contains_b (x y ww hh mn mx : Int) (b0 : -9223372036854775808 ≤ x ∧ x ≤ 9223372036854775807) (b1 : -9223372036854775808 ≤ y ∧ y ≤ 9223372036854775807) (b2 : -9223372036854775808 ≤ ww ∧ ww ≤ 9223372036854775807) (b3 : -9223372036854775808 ≤ hh ∧ hh ≤ 9223372036854775807) (px py : Int) (b4 : -9223372036854775808 ≤ px ∧ px ≤ 9223372036854775807) (b5 : -9223372036854775808 ≤ py ∧ py ≤ 9223372036854775807) (w : World) :
    Calls Try.prog 13 #[.agg #[.int .i64 x, .int .i64 y, .int .i64 ww, .int .i64 hh, .int .i64 mn, .int .i64 mx], .int .i64 px, .int .i64 py] w fun e w' => e = .returned (.bool (btw x ww px && btw y hh py)) ∧ Below w.heap.size w w' := by
  have BB := box_below w #[.int .i64 x, .int .i64 y, .int .i64 ww, .int .i64 hh, .int .i64 mn, .int .i64 mx] 23
  have X0 := EBox.made w #[.int .i64 x, .int .i64 y, .int .i64 ww, .int .i64 hh, .int .i64 mn, .int .i64 mx] 23
  have c0 := X0.cell (i := 0) rfl
  have c1 := X0.cell (i := 1) rfl
  have c2 := X0.cell (i := 2) rfl
  have c3 := X0.cell (i := 3) rfl
  have c4 := X0.cell (i := 4) rfl
  have c5 := X0.cell (i := 5) rfl
  have Evp := range_cut X0.1 0 6
  simp only [List.drop_succ_cons, List.drop_zero, List.take_succ_cons, List.take_zero, Nat.zero_add] at Evp
  clear X0
  have CX := Lib.hid (btw_b x ww px b0 b2 b4)
  have CY := Lib.hid (btw_b y hh py b1 b3 b5)
  obtain ⟨s1, hs1⟩ : ∃ s, btw x ww px = s := ⟨_, rfl⟩
  obtain ⟨s2, hs2⟩ : ∃ s, btw y hh py = s := ⟨_, rfl⟩
  rw [hs1] at CX ⊢
  rw [hs2] at CY ⊢
  clear hs1 hs2 Evp b0 b1 b2 b3 b4 b5 c4 c5
  cases s1
  all_goals
    go_enter Try.func13, Try.ntmps13
    go_wp2_with (go_at_call 27; first | ((with_reducible refine (CX.out _).mono ?_); rintro _ _ ⟨rfl, B⟩; (replace BB := bon BB B; replace c0 := cell_below B c0; replace c1 := cell_below B c1; replace c2 := cell_below B c2; replace c3 := cell_below B c3)) | ((with_reducible refine (CY.out _).mono ?_); rintro _ _ ⟨rfl, B⟩; (replace BB := bon BB B; replace c0 := cell_below B c0; replace c1 := cell_below B c1; replace c2 := cell_below B c2; replace c3 := cell_below B c3)))
    go_ret
    exact ⟨ret_bool (by simp), BB⟩

set_option maxRecDepth 100000 in
set_option maxHeartbeats 1000000 in
theorem rcontains_b (x y ww hh mn mx : Int) (b0 : -9223372036854775808 ≤ x ∧ x ≤ 9223372036854775807) (b1 : -9223372036854775808 ≤ y ∧ y ≤ 9223372036854775807) (b2 : -9223372036854775808 ≤ ww ∧ ww ≤ 9223372036854775807) (b3 : -9223372036854775808 ≤ hh ∧ hh ≤ 9223372036854775807) (px py : Int) (b4 : -9223372036854775808 ≤ px ∧ px ≤ 9223372036854775807) (b5 : -9223372036854775808 ≤ py ∧ py ≤ 9223372036854775807) (w : World) :
    Calls Try.prog 14 #[.agg #[.int .i64 x, .int .i64 y, .int .i64 ww, .int .i64 hh, .int .i64 mn, .int .i64 mx], .int .i64 px, .int .i64 py] w fun e w' => e = .returned (.bool (btw x ww px && btw y hh py)) ∧ Below w.heap.size w w' := by
  have BB := box_below w #[.int .i64 x, .int .i64 y, .int .i64 ww, .int .i64 hh, .int .i64 mn, .int .i64 mx] 23
  have X0 := EBox.made w #[.int .i64 x, .int .i64 y, .int .i64 ww, .int .i64 hh, .int .i64 mn, .int .i64 mx] 23
  have c0 := X0.cell (i := 0) rfl
  have c1 := X0.cell (i := 1) rfl
  have c2 := X0.cell (i := 2) rfl
  have c3 := X0.cell (i := 3) rfl
  have c4 := X0.cell (i := 4) rfl
  have c5 := X0.cell (i := 5) rfl
  have Evp := range_cut X0.1 0 6
  simp only [List.drop_succ_cons, List.drop_zero, List.take_succ_cons, List.take_zero, Nat.zero_add] at Evp
  clear X0
  have CX := Lib.hid (rbtw_b x ww px b0 b2 b4)
  have CY := Lib.hid (rbtw_b y hh py b1 b3 b5)
  obtain ⟨s1, hs1⟩ : ∃ s, btw x ww px = s := ⟨_, rfl⟩
  obtain ⟨s2, hs2⟩ : ∃ s, btw y hh py = s := ⟨_, rfl⟩
  rw [hs1] at CX ⊢
  rw [hs2] at CY ⊢
  clear hs1 hs2 Evp b0 b1 b2 b3 b4 b5 c4 c5
  cases s1
  all_goals
    go_enter Try.func14, Try.ntmps14
    go_wp2_with (go_at_call 28; first | ((with_reducible refine (CX.out _).mono ?_); rintro _ _ ⟨rfl, B⟩; (replace BB := bon BB B; replace c0 := cell_below B c0; replace c1 := cell_below B c1; replace c2 := cell_below B c2; replace c3 := cell_below B c3)) | ((with_reducible refine (CY.out _).mono ?_); rintro _ _ ⟨rfl, B⟩; (replace BB := bon BB B; replace c0 := cell_below B c0; replace c1 := cell_below B c1; replace c2 := cell_below B c2; replace c3 := cell_below B c3)))
    go_ret
    exact ⟨ret_bool (by simp), BB⟩

end Go.Proofs.Ytfpnbgmmgnpggaa
