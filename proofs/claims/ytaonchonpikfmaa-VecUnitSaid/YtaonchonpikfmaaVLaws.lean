/- The walks of the laws of stage 3: VecArithmetic, VecDotRounded, VecCommutes. -/
import Derived.Test.YtaonchonpikfmaaVOf2
namespace Go.Proofs.Ytaonchonpikfmaa
open Go.RowKit Go.Sort

theorem clampv_is (x : Int) : imax 0 (imin x 65536) = clampv x 0 65536 := by unfold imax imin clampv; grind
theorem imin_comm (x y : Int) : imin x y = imin y x := by unfold imin; grind
theorem imax_comm (x y : Int) : imax x y = imax y x := by unfold imax; grind
theorem dotv_comm (x0 x1 x2 x3 y0 y1 y2 y3 : Int) : dotv y0 y1 y2 y3 x0 x1 x2 x3 = dotv x0 x1 x2 x3 y0 y1 y2 y3 := by
  unfold dotv; rw [Int.mul_comm (sat y0), Int.mul_comm (sat y1), Int.mul_comm (sat y2), Int.mul_comm (sat y3)]

theorem rclamp4' (x0 x1 x2 x3 : Int) (w : World) :
    Calls Try.prog 24 #[.agg #[.int .i64 x0, .int .i64 x1, .int .i64 x2, .int .i64 x3]] w fun e w' =>
      e = .returned (.agg #[.int .i64 (clampv x0 0 65536), .int .i64 (clampv x1 0 65536), .int .i64 (clampv x2 0 65536), .int .i64 (clampv x3 0 65536)]) ∧ Below w.heap.size w w' := by
  have h := rclamp4 x0 x1 x2 x3 w
  rw [clampv_is, clampv_is, clampv_is, clampv_is] at h
  exact h

theorem dotex_b (w : World) :
    Calls Try.prog 26 #[.agg #[.int .i64 65536, .int .i64 65536, .int .i64 0, .int .i64 0], .agg #[.int .i64 32768, .int .i64 32768, .int .i64 5, .int .i64 5]] w fun e w' => e = .returned (.int .i64 65536) ∧ Below w.heap.size w w' :=
  (dot_b 65536 65536 0 0 32768 32768 5 5 w).mono fun _ _ ⟨h, g⟩ => ⟨h.trans (ret_int (by decide)), g⟩

theorem with3_b (x0 x1 x2 x3 x : Int) (w : World) :
    Calls Try.prog 34 #[.agg #[.int .i64 x0, .int .i64 x1, .int .i64 x2, .int .i64 x3], .int .i64 3, .int .i64 x] w fun e w' => e = .returned (.agg #[.int .i64 x0, .int .i64 x1, .int .i64 x2, .int .i64 x]) ∧ Below w.heap.size w w' :=
  with_b x0 x1 x2 x3 3 x w

theorem example_b (w : World) : Calls Try.prog 25 #[] w fun e w' => e = .returned (.bool true) ∧ Below w.heap.size w w' := by
  obtain ⟨a0, a1, a2, a3, BB⟩ := box4 w (.int .i64 65536) (.int .i64 65536) (.int .i64 0) (.int .i64 0) 23
  go_enter Try.func25, Try.ntmps25
  go_wp2_with (first | (go_at_call 26; refine (dotex_b _).mono ?_; rintro _ _ ⟨rfl, B⟩; replace BB := bon BB B; replace a0 := cell_below B a0; replace a1 := cell_below B a1; replace a2 := cell_below B a2; replace a3 := cell_below B a3) | (go_at_call 34; refine (with3_b _ _ _ _ _ _).mono ?_; rintro _ _ ⟨rfl, B⟩; replace BB := bon BB B; replace a0 := cell_below B a0; replace a1 := cell_below B a1; replace a2 := cell_below B a2; replace a3 := cell_below B a3))
  go_ret
  exact ⟨rfl, BB⟩

set_option maxRecDepth 100000 in
theorem arithmetic_walk (x0 x1 x2 x3 y0 y1 y2 y3 k : Int) (w : World) :
    Calls Try.prog 3 #[.agg #[.int .i64 x0, .int .i64 x1, .int .i64 x2, .int .i64 x3], .agg #[.int .i64 y0, .int .i64 y1, .int .i64 y2, .int .i64 y3], .int .i64 k] w fun e w' => e = .returned (.bool true) ∧ Below w.heap.size w w' := by
  obtain ⟨BB, a0, a1, a2, a3, b0, b1, b2, b3⟩ := argsff w (.int .i64 x0) (.int .i64 x1) (.int .i64 x2) (.int .i64 x3) (.int .i64 y0) (.int .i64 y1) (.int .i64 y2) (.int .i64 y3) 23
  go_enter Try.func3, Try.ntmps3
  go_wp2_with fail
  have k_a0 := cell_regrown a0
  have k_a1 := cell_regrown a1
  have k_a2 := cell_regrown a2
  have k_a3 := cell_regrown a3
  have k_b0 := cell_regrown b0
  have k_b1 := cell_regrown b1
  have k_b2 := cell_regrown b2
  have k_b3 := cell_regrown b3
  refine wp_region_quiet_below (by kernel_rfl) (by kernel_rfl) ?_
  repeat (first | go_big_quiet_step ((first | (go_at_call 9; exact Calls.regrown_of (add4 _ _ _ _ _ _ _ _ _)) | (go_at_call 10; exact Calls.regrown_of (radd4 _ _ _ _ _ _ _ _ _)) | (go_at_call 11; exact Calls.regrown_of (sub4 _ _ _ _ _ _ _ _ _)) | (go_at_call 12; exact Calls.regrown_of (rsub4 _ _ _ _ _ _ _ _ _)) | (go_at_call 13; exact Calls.regrown_of (mul4 _ _ _ _ _ _ _ _ _)) | (go_at_call 14; exact Calls.regrown_of (rmul4 _ _ _ _ _ _ _ _ _)))) | quiet_step ((first | (go_at_call 9; exact Calls.regrown_of (add4 _ _ _ _ _ _ _ _ _)) | (go_at_call 10; exact Calls.regrown_of (radd4 _ _ _ _ _ _ _ _ _)) | (go_at_call 11; exact Calls.regrown_of (sub4 _ _ _ _ _ _ _ _ _)) | (go_at_call 12; exact Calls.regrown_of (rsub4 _ _ _ _ _ _ _ _ _)) | (go_at_call 13; exact Calls.regrown_of (mul4 _ _ _ _ _ _ _ _ _)) | (go_at_call 14; exact Calls.regrown_of (rmul4 _ _ _ _ _ _ _ _ _)))))
  refine wpQuiet_nil ?_
  intro W hw'
  have B := below_regrown' hw'
  clear hw' k_a0 k_a1 k_a2 k_a3 k_b0 k_b1 k_b2 k_b3
  replace BB := bon BB B
  replace a0 := cell_below B a0
  replace a1 := cell_below B a1
  replace a2 := cell_below B a2
  replace a3 := cell_below B a3
  replace b0 := cell_below B b0
  replace b1 := cell_below B b1
  replace b2 := cell_below B b2
  replace b3 := cell_below B b3
  go_wp2_with fail
  have k_a0 := cell_regrown a0
  have k_a1 := cell_regrown a1
  have k_a2 := cell_regrown a2
  have k_a3 := cell_regrown a3
  have k_b0 := cell_regrown b0
  have k_b1 := cell_regrown b1
  have k_b2 := cell_regrown b2
  have k_b3 := cell_regrown b3
  refine wp_region_quiet_below (by kernel_rfl) (by kernel_rfl) ?_
  repeat (first | go_big_quiet_step ((first | (go_at_call 15; exact Calls.regrown_of (scale4 _ _ _ _ _ _)) | (go_at_call 16; exact Calls.regrown_of (rscale4 _ _ _ _ _ _)) | (go_at_call 17; exact Calls.regrown_of (lerp4 _ _ _ _ _ _ _ _ _ _)) | (go_at_call 18; exact Calls.regrown_of (rlerp4 _ _ _ _ _ _ _ _ _ _)))) | quiet_step ((first | (go_at_call 15; exact Calls.regrown_of (scale4 _ _ _ _ _ _)) | (go_at_call 16; exact Calls.regrown_of (rscale4 _ _ _ _ _ _)) | (go_at_call 17; exact Calls.regrown_of (lerp4 _ _ _ _ _ _ _ _ _ _)) | (go_at_call 18; exact Calls.regrown_of (rlerp4 _ _ _ _ _ _ _ _ _ _)))))
  refine wpQuiet_nil ?_
  intro W hw'
  have B := below_regrown' hw'
  clear hw' k_a0 k_a1 k_a2 k_a3 k_b0 k_b1 k_b2 k_b3
  replace BB := bon BB B
  replace a0 := cell_below B a0
  replace a1 := cell_below B a1
  replace a2 := cell_below B a2
  replace a3 := cell_below B a3
  replace b0 := cell_below B b0
  replace b1 := cell_below B b1
  replace b2 := cell_below B b2
  replace b3 := cell_below B b3
  go_wp2_with fail
  have k_a0 := cell_regrown a0
  have k_a1 := cell_regrown a1
  have k_a2 := cell_regrown a2
  have k_a3 := cell_regrown a3
  have k_b0 := cell_regrown b0
  have k_b1 := cell_regrown b1
  have k_b2 := cell_regrown b2
  have k_b3 := cell_regrown b3
  refine wp_region_quiet_below (by kernel_rfl) (by kernel_rfl) ?_
  repeat (first | go_big_quiet_step ((first | (go_at_call 19; exact Calls.regrown_of (min4 _ _ _ _ _ _ _ _ _)) | (go_at_call 20; exact Calls.regrown_of (rmin4 _ _ _ _ _ _ _ _ _)) | (go_at_call 21; exact Calls.regrown_of (max4 _ _ _ _ _ _ _ _ _)) | (go_at_call 22; exact Calls.regrown_of (rmax4 _ _ _ _ _ _ _ _ _)) | (go_at_call 23; exact Calls.regrown_of (clamp4 _ _ _ _ _)) | (go_at_call 24; exact Calls.regrown_of (rclamp4' _ _ _ _ _)))) | quiet_step ((first | (go_at_call 19; exact Calls.regrown_of (min4 _ _ _ _ _ _ _ _ _)) | (go_at_call 20; exact Calls.regrown_of (rmin4 _ _ _ _ _ _ _ _ _)) | (go_at_call 21; exact Calls.regrown_of (max4 _ _ _ _ _ _ _ _ _)) | (go_at_call 22; exact Calls.regrown_of (rmax4 _ _ _ _ _ _ _ _ _)) | (go_at_call 23; exact Calls.regrown_of (clamp4 _ _ _ _ _)) | (go_at_call 24; exact Calls.regrown_of (rclamp4' _ _ _ _ _)))))
  refine wpQuiet_nil ?_
  intro W hw'
  have B := below_regrown' hw'
  clear hw' k_a0 k_a1 k_a2 k_a3 k_b0 k_b1 k_b2 k_b3
  replace BB := bon BB B
  replace a0 := cell_below B a0
  replace a1 := cell_below B a1
  replace a2 := cell_below B a2
  replace a3 := cell_below B a3
  replace b0 := cell_below B b0
  replace b1 := cell_below B b1
  replace b2 := cell_below B b2
  replace b3 := cell_below B b3
  go_wp2_with (first | (go_at_call 25; refine (example_b _).mono ?_; rintro _ _ ⟨rfl, B⟩; replace BB := bon BB B; replace a0 := cell_below B a0; replace a1 := cell_below B a1; replace a2 := cell_below B a2; replace a3 := cell_below B a3; replace b0 := cell_below B b0; replace b1 := cell_below B b1; replace b2 := cell_below B b2; replace b3 := cell_below B b3))
  go_ret
  exact ⟨rfl, BB⟩

set_option maxRecDepth 100000 in
theorem dot_walk (x0 x1 x2 x3 y0 y1 y2 y3 : Int) (w : World) :
    Calls Try.prog 4 #[.agg #[.int .i64 x0, .int .i64 x1, .int .i64 x2, .int .i64 x3], .agg #[.int .i64 y0, .int .i64 y1, .int .i64 y2, .int .i64 y3]] w fun e w' => e = .returned (.bool true) ∧ Below w.heap.size w w' := by
  obtain ⟨BB, a0, a1, a2, a3, b0, b1, b2, b3⟩ := argsff w (.int .i64 x0) (.int .i64 x1) (.int .i64 x2) (.int .i64 x3) (.int .i64 y0) (.int .i64 y1) (.int .i64 y2) (.int .i64 y3) 23
  go_enter Try.func4, Try.ntmps4
  go_wp2_with fail
  have k_a0 := cell_regrown a0
  have k_a1 := cell_regrown a1
  have k_a2 := cell_regrown a2
  have k_a3 := cell_regrown a3
  have k_b0 := cell_regrown b0
  have k_b1 := cell_regrown b1
  have k_b2 := cell_regrown b2
  have k_b3 := cell_regrown b3
  refine wp_region_quiet_below (by kernel_rfl) (by kernel_rfl) ?_
  repeat (first | go_big_quiet_step ((first | (go_at_call 26; exact Calls.regrown_of (dot_b _ _ _ _ _ _ _ _ _)) | (go_at_call 27; exact Calls.regrown_of (rdot_b _ _ _ _ _ _ _ _ _)) | (go_at_call 25; exact Calls.regrown_of (example_b _)))) | quiet_step ((first | (go_at_call 26; exact Calls.regrown_of (dot_b _ _ _ _ _ _ _ _ _)) | (go_at_call 27; exact Calls.regrown_of (rdot_b _ _ _ _ _ _ _ _ _)) | (go_at_call 25; exact Calls.regrown_of (example_b _)))))
  refine wpQuiet_nil ?_
  intro W hw'
  have B := below_regrown' hw'
  clear hw' k_a0 k_a1 k_a2 k_a3 k_b0 k_b1 k_b2 k_b3
  replace BB := bon BB B
  replace a0 := cell_below B a0
  replace a1 := cell_below B a1
  replace a2 := cell_below B a2
  replace a3 := cell_below B a3
  replace b0 := cell_below B b0
  replace b1 := cell_below B b1
  replace b2 := cell_below B b2
  replace b3 := cell_below B b3
  go_wp2_with fail
  go_ret
  exact ⟨rfl, BB⟩

set_option maxRecDepth 100000 in
theorem commutes_walk (x0 x1 x2 x3 y0 y1 y2 y3 : Int) (w : World) :
    Calls Try.prog 6 #[.agg #[.int .i64 x0, .int .i64 x1, .int .i64 x2, .int .i64 x3], .agg #[.int .i64 y0, .int .i64 y1, .int .i64 y2, .int .i64 y3]] w fun e w' => e = .returned (.bool true) ∧ Below w.heap.size w w' := by
  obtain ⟨BB, a0, a1, a2, a3, b0, b1, b2, b3⟩ := argsff w (.int .i64 x0) (.int .i64 x1) (.int .i64 x2) (.int .i64 x3) (.int .i64 y0) (.int .i64 y1) (.int .i64 y2) (.int .i64 y3) 23
  have A0 := addv_comm y0 x0
  have A1 := addv_comm y1 x1
  have A2 := addv_comm y2 x2
  have A3 := addv_comm y3 x3
  have M0 := mulv_comm y0 x0
  have M1 := mulv_comm y1 x1
  have M2 := mulv_comm y2 x2
  have M3 := mulv_comm y3 x3
  have I0 := imin_comm y0 x0
  have I1 := imin_comm y1 x1
  have I2 := imin_comm y2 x2
  have I3 := imin_comm y3 x3
  have X0 := imax_comm y0 x0
  have X1 := imax_comm y1 x1
  have X2 := imax_comm y2 x2
  have X3 := imax_comm y3 x3
  have D := dotv_comm x0 x1 x2 x3 y0 y1 y2 y3
  have S0 := subv_self x0
  have S1 := subv_self x1
  have S2 := subv_self x2
  have S3 := subv_self x3
  go_enter Try.func6, Try.ntmps6
  go_wp2_with fail
  have k_a0 := cell_regrown a0
  have k_a1 := cell_regrown a1
  have k_a2 := cell_regrown a2
  have k_a3 := cell_regrown a3
  have k_b0 := cell_regrown b0
  have k_b1 := cell_regrown b1
  have k_b2 := cell_regrown b2
  have k_b3 := cell_regrown b3
  refine wp_region_quiet_below (by kernel_rfl) (by kernel_rfl) ?_
  repeat (first | go_big_quiet_step ((first | (go_at_call 9; exact Calls.regrown_of (add4 _ _ _ _ _ _ _ _ _)) | (go_at_call 13; exact Calls.regrown_of (mul4 _ _ _ _ _ _ _ _ _)) | (go_at_call 26; exact Calls.regrown_of (dot_b _ _ _ _ _ _ _ _ _)))) | quiet_step ((first | (go_at_call 9; exact Calls.regrown_of (add4 _ _ _ _ _ _ _ _ _)) | (go_at_call 13; exact Calls.regrown_of (mul4 _ _ _ _ _ _ _ _ _)) | (go_at_call 26; exact Calls.regrown_of (dot_b _ _ _ _ _ _ _ _ _)))))
  refine wpQuiet_nil ?_
  intro W hw'
  have B := below_regrown' hw'
  clear hw' k_a0 k_a1 k_a2 k_a3 k_b0 k_b1 k_b2 k_b3
  replace BB := bon BB B
  replace a0 := cell_below B a0
  replace a1 := cell_below B a1
  replace a2 := cell_below B a2
  replace a3 := cell_below B a3
  replace b0 := cell_below B b0
  replace b1 := cell_below B b1
  replace b2 := cell_below B b2
  replace b3 := cell_below B b3
  go_wp2_with fail
  have k_a0 := cell_regrown a0
  have k_a1 := cell_regrown a1
  have k_a2 := cell_regrown a2
  have k_a3 := cell_regrown a3
  have k_b0 := cell_regrown b0
  have k_b1 := cell_regrown b1
  have k_b2 := cell_regrown b2
  have k_b3 := cell_regrown b3
  refine wp_region_quiet_below (by kernel_rfl) (by kernel_rfl) ?_
  repeat (first | go_big_quiet_step ((first | (go_at_call 19; exact Calls.regrown_of (min4 _ _ _ _ _ _ _ _ _)) | (go_at_call 21; exact Calls.regrown_of (max4 _ _ _ _ _ _ _ _ _)))) | quiet_step ((first | (go_at_call 19; exact Calls.regrown_of (min4 _ _ _ _ _ _ _ _ _)) | (go_at_call 21; exact Calls.regrown_of (max4 _ _ _ _ _ _ _ _ _)))))
  refine wpQuiet_nil ?_
  intro W hw'
  have B := below_regrown' hw'
  clear hw' k_a0 k_a1 k_a2 k_a3 k_b0 k_b1 k_b2 k_b3
  replace BB := bon BB B
  replace a0 := cell_below B a0
  replace a1 := cell_below B a1
  replace a2 := cell_below B a2
  replace a3 := cell_below B a3
  replace b0 := cell_below B b0
  replace b1 := cell_below B b1
  replace b2 := cell_below B b2
  replace b3 := cell_below B b3
  go_wp2_with (first | (go_at_call 11; refine (sub4 _ _ _ _ _ _ _ _ _).mono ?_; rintro _ _ ⟨rfl, B⟩; replace BB := bon BB B; replace a0 := cell_below B a0; replace a1 := cell_below B a1; replace a2 := cell_below B a2; replace a3 := cell_below B a3; replace b0 := cell_below B b0; replace b1 := cell_below B b1; replace b2 := cell_below B b2; replace b3 := cell_below B b3) | (go_at_call 25; refine (example_b _).mono ?_; rintro _ _ ⟨rfl, B⟩; replace BB := bon BB B; replace a0 := cell_below B a0; replace a1 := cell_below B a1; replace a2 := cell_below B a2; replace a3 := cell_below B a3; replace b0 := cell_below B b0; replace b1 := cell_below B b1; replace b2 := cell_below B b2; replace b3 := cell_below B b3))
  go_ret
  exact ⟨rfl, BB⟩

end Go.Proofs.Ytaonchonpikfmaa
