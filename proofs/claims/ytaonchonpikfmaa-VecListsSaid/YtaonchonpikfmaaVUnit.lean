/- The walk of the law VecUnit. -/
import Derived.Test.YtaonchonpikfmaaVLaws
namespace Go.Proofs.Ytaonchonpikfmaa
open Go.RowKit Go.Sort

theorem imin_self (x : Int) : imin x x = x := by unfold imin; split <;> rfl
theorem clamp_clamp (x : Int) : clampv (clampv x 0 65536) 0 65536 = clampv x 0 65536 := by unfold clampv; grind
theorem clamp_of_sat (x : Int) : clampv (sat x) 0 65536 = clampv x 0 65536 := by unfold clampv sat; grind
theorem dot_unit (s x : Int) (h : s = sat x * 65536) : sat (rda s 65536) = sat x := by
  have b := sat_bd x
  subst h
  rw [rda_in _ _ (by omega) (by omega) (by omega) (by omega), rdv_mul_any _ _ (by omega), sat_sat]

theorem add4z (x0 x1 x2 x3 : Int) (w : World) :
    Calls Try.prog 9 #[.agg #[.int .i64 x0, .int .i64 x1, .int .i64 x2, .int .i64 x3], .agg #[.int .i64 0, .int .i64 0, .int .i64 0, .int .i64 0]] w fun e w' => e = .returned (.agg #[.int .i64 (sat x0), .int .i64 (sat x1), .int .i64 (sat x2), .int .i64 (sat x3)]) ∧ Below w.heap.size w w' := by
  have h := add4 x0 x1 x2 x3 0 0 0 0 w
  rw [addv_zero, addv_zero, addv_zero, addv_zero] at h
  exact h

theorem scale4one (x0 x1 x2 x3 : Int) (w : World) :
    Calls Try.prog 15 #[.agg #[.int .i64 x0, .int .i64 x1, .int .i64 x2, .int .i64 x3], .int .i64 65536] w fun e w' => e = .returned (.agg #[.int .i64 (sat x0), .int .i64 (sat x1), .int .i64 (sat x2), .int .i64 (sat x3)]) ∧ Below w.heap.size w w' := by
  have h := scale4 x0 x1 x2 x3 65536 w
  rw [mulv_one, mulv_one, mulv_one, mulv_one] at h
  exact h

theorem min4c (x0 x1 x2 x3 : Int) (w : World) :
    Calls Try.prog 19 #[.agg #[.int .i64 x0, .int .i64 x1, .int .i64 x2, .int .i64 x3], .agg #[.int .i64 x0, .int .i64 x1, .int .i64 x2, .int .i64 x3]] w fun e w' => e = .returned (.agg #[.int .i64 x0, .int .i64 x1, .int .i64 x2, .int .i64 x3]) ∧ Below w.heap.size w w' := by
  have h := min4 x0 x1 x2 x3 x0 x1 x2 x3 w
  rw [imin_self, imin_self, imin_self, imin_self] at h
  exact h

theorem unit0_b (w : World) :
    Calls Try.prog 34 #[.agg #[.int .i64 0, .int .i64 0, .int .i64 0, .int .i64 0], .int .i64 0, .int .i64 65536] w fun e w' => e = .returned (.agg #[.int .i64 65536, .int .i64 0, .int .i64 0, .int .i64 0]) ∧ Below w.heap.size w w' :=
  with_b 0 0 0 0 0 65536 w

theorem dot0_b (x0 x1 x2 x3 : Int) (w : World) :
    Calls Try.prog 26 #[.agg #[.int .i64 x0, .int .i64 x1, .int .i64 x2, .int .i64 x3], .agg #[.int .i64 65536, .int .i64 0, .int .i64 0, .int .i64 0]] w fun e w' => e = .returned (.int .i64 (sat x0)) ∧ Below w.heap.size w w' :=
  (dot_b x0 x1 x2 x3 65536 0 0 0 w).mono fun _ _ ⟨h, g⟩ => ⟨h.trans (ret_int (dot_unit _ _ (by
    have h0 : sat 0 = 0 := rfl
    have h1 : sat 65536 = 65536 := rfl
    rw [h0, h1]; omega))), g⟩

theorem comp0_b (x0 x1 x2 x3 : Int) (w : World) :
    Calls Try.prog 32 #[.agg #[.int .i64 x0, .int .i64 x1, .int .i64 x2, .int .i64 x3], .int .i64 0] w fun e w' => e = .returned (.int .i64 x0) ∧ Below w.heap.size w w' :=
  comp_b x0 x1 x2 x3 0 w

theorem unit1_b (w : World) :
    Calls Try.prog 34 #[.agg #[.int .i64 0, .int .i64 0, .int .i64 0, .int .i64 0], .int .i64 1, .int .i64 65536] w fun e w' => e = .returned (.agg #[.int .i64 0, .int .i64 65536, .int .i64 0, .int .i64 0]) ∧ Below w.heap.size w w' :=
  with_b 0 0 0 0 1 65536 w

theorem dot1_b (x0 x1 x2 x3 : Int) (w : World) :
    Calls Try.prog 26 #[.agg #[.int .i64 x0, .int .i64 x1, .int .i64 x2, .int .i64 x3], .agg #[.int .i64 0, .int .i64 65536, .int .i64 0, .int .i64 0]] w fun e w' => e = .returned (.int .i64 (sat x1)) ∧ Below w.heap.size w w' :=
  (dot_b x0 x1 x2 x3 0 65536 0 0 w).mono fun _ _ ⟨h, g⟩ => ⟨h.trans (ret_int (dot_unit _ _ (by
    have h0 : sat 0 = 0 := rfl
    have h1 : sat 65536 = 65536 := rfl
    rw [h0, h1]; omega))), g⟩

theorem comp1_b (x0 x1 x2 x3 : Int) (w : World) :
    Calls Try.prog 32 #[.agg #[.int .i64 x0, .int .i64 x1, .int .i64 x2, .int .i64 x3], .int .i64 1] w fun e w' => e = .returned (.int .i64 x1) ∧ Below w.heap.size w w' :=
  comp_b x0 x1 x2 x3 1 w

theorem unit2_b (w : World) :
    Calls Try.prog 34 #[.agg #[.int .i64 0, .int .i64 0, .int .i64 0, .int .i64 0], .int .i64 2, .int .i64 65536] w fun e w' => e = .returned (.agg #[.int .i64 0, .int .i64 0, .int .i64 65536, .int .i64 0]) ∧ Below w.heap.size w w' :=
  with_b 0 0 0 0 2 65536 w

theorem dot2_b (x0 x1 x2 x3 : Int) (w : World) :
    Calls Try.prog 26 #[.agg #[.int .i64 x0, .int .i64 x1, .int .i64 x2, .int .i64 x3], .agg #[.int .i64 0, .int .i64 0, .int .i64 65536, .int .i64 0]] w fun e w' => e = .returned (.int .i64 (sat x2)) ∧ Below w.heap.size w w' :=
  (dot_b x0 x1 x2 x3 0 0 65536 0 w).mono fun _ _ ⟨h, g⟩ => ⟨h.trans (ret_int (dot_unit _ _ (by
    have h0 : sat 0 = 0 := rfl
    have h1 : sat 65536 = 65536 := rfl
    rw [h0, h1]; omega))), g⟩

theorem comp2_b (x0 x1 x2 x3 : Int) (w : World) :
    Calls Try.prog 32 #[.agg #[.int .i64 x0, .int .i64 x1, .int .i64 x2, .int .i64 x3], .int .i64 2] w fun e w' => e = .returned (.int .i64 x2) ∧ Below w.heap.size w w' :=
  comp_b x0 x1 x2 x3 2 w

theorem unit3_b (w : World) :
    Calls Try.prog 34 #[.agg #[.int .i64 0, .int .i64 0, .int .i64 0, .int .i64 0], .int .i64 3, .int .i64 65536] w fun e w' => e = .returned (.agg #[.int .i64 0, .int .i64 0, .int .i64 0, .int .i64 65536]) ∧ Below w.heap.size w w' :=
  with_b 0 0 0 0 3 65536 w

theorem dot3_b (x0 x1 x2 x3 : Int) (w : World) :
    Calls Try.prog 26 #[.agg #[.int .i64 x0, .int .i64 x1, .int .i64 x2, .int .i64 x3], .agg #[.int .i64 0, .int .i64 0, .int .i64 0, .int .i64 65536]] w fun e w' => e = .returned (.int .i64 (sat x3)) ∧ Below w.heap.size w w' :=
  (dot_b x0 x1 x2 x3 0 0 0 65536 w).mono fun _ _ ⟨h, g⟩ => ⟨h.trans (ret_int (dot_unit _ _ (by
    have h0 : sat 0 = 0 := rfl
    have h1 : sat 65536 = 65536 := rfl
    rw [h0, h1]; omega))), g⟩

theorem comp3_b (x0 x1 x2 x3 : Int) (w : World) :
    Calls Try.prog 32 #[.agg #[.int .i64 x0, .int .i64 x1, .int .i64 x2, .int .i64 x3], .int .i64 3] w fun e w' => e = .returned (.int .i64 x3) ∧ Below w.heap.size w w' :=
  comp_b x0 x1 x2 x3 3 w

set_option maxRecDepth 100000 in
theorem unit_walk (x0 x1 x2 x3 : Int) (w : World) :
    Calls Try.prog 8 #[.agg #[.int .i64 x0, .int .i64 x1, .int .i64 x2, .int .i64 x3]] w fun e w' => e = .returned (.bool true) ∧ Below w.heap.size w w' := by
  obtain ⟨a0, a1, a2, a3, BB⟩ := box4 w (.int .i64 x0) (.int .i64 x1) (.int .i64 x2) (.int .i64 x3) 23
  go_enter Try.func8, Try.ntmps8
  go_wp2_with (go_at_call 9; refine (add4z _ _ _ _ _).mono ?_; rintro _ W1 ⟨rfl, B⟩; replace BB := bon BB B; replace a0 := cell_below B a0; replace a1 := cell_below B a1; replace a2 := cell_below B a2; replace a3 := cell_below B a3; clear B)
  obtain ⟨B, s0, s1, s2, s3, BB⟩ := box4_on BB (.int .i64 (sat x0)) (.int .i64 (sat x1)) (.int .i64 (sat x2)) (.int .i64 (sat x3)) 23
  refine letter (S := fun w' => Below w.heap.size w w' ∧ w'.cell? ⟨w.heap.size, 0, none⟩ = some (.int .i64 x0) ∧ w'.cell? ⟨w.heap.size, 1, none⟩ = some (.int .i64 x1) ∧ w'.cell? ⟨w.heap.size, 2, none⟩ = some (.int .i64 x2) ∧ w'.cell? ⟨w.heap.size, 3, none⟩ = some (.int .i64 x3) ∧ w'.cell? ⟨W1.heap.size, 0, none⟩ = some (.int .i64 (sat x0)) ∧ w'.cell? ⟨W1.heap.size, 1, none⟩ = some (.int .i64 (sat x1)) ∧ w'.cell? ⟨W1.heap.size, 2, none⟩ = some (.int .i64 (sat x2)) ∧ w'.cell? ⟨W1.heap.size, 3, none⟩ = some (.int .i64 (sat x3))) ?_ ⟨BB, cell_below B a0, cell_below B a1, cell_below B a2, cell_below B a3, s0, s1, s2, s3⟩
  clear BB B a0 a1 a2 a3 s0 s1 s2 s3
  rintro W ⟨BB, a0, a1, a2, a3, s0, s1, s2, s3⟩
  generalize W1.heap.size = sb at *
  go_loopw [4] (fun i w' => (i = .int .i64 0 ∨ i = .int .i64 1 ∨ i = .int .i64 2 ∨ i = .int .i64 3 ∨ i = .int .i64 4) ∧ Below w.heap.size w w' ∧ w'.cell? ⟨w.heap.size, 0, none⟩ = some (.int .i64 x0) ∧ w'.cell? ⟨w.heap.size, 1, none⟩ = some (.int .i64 x1) ∧ w'.cell? ⟨w.heap.size, 2, none⟩ = some (.int .i64 x2) ∧ w'.cell? ⟨w.heap.size, 3, none⟩ = some (.int .i64 x3) ∧ w'.cell? ⟨sb, 0, none⟩ = some (.int .i64 (sat x0)) ∧ w'.cell? ⟨sb, 1, none⟩ = some (.int .i64 (sat x1)) ∧ w'.cell? ⟨sb, 2, none⟩ = some (.int .i64 (sat x2)) ∧ w'.cell? ⟨sb, 3, none⟩ = some (.int .i64 (sat x3))) (fun i _ => (4 - intOf i).toNat)
  case atStart => exact ⟨.inl rfl, BB, a0, a1, a2, a3, s0, s1, s2, s3⟩
  case round =>
    clear BB a0 a1 a2 a3 s0 s1 s2 s3
    obtain ⟨hk, BB, a0, a1, a2, a3, s0, s1, s2, s3⟩ := hrel
    rcases hk with rfl | rfl | rfl | rfl | rfl
    · go_wp2_with fail
      have k_a0 := cell_regrown a0
      have k_a1 := cell_regrown a1
      have k_a2 := cell_regrown a2
      have k_a3 := cell_regrown a3
      have k_s0 := cell_regrown s0
      have k_s1 := cell_regrown s1
      have k_s2 := cell_regrown s2
      have k_s3 := cell_regrown s3
      refine wp_region_quiet_below (by kernel_rfl) (by kernel_rfl) ?_
      repeat (first | go_big_quiet_step ((first | (go_at_call 34; exact Calls.regrown_of (unit0_b _)) | (go_at_call 26; exact Calls.regrown_of (dot0_b _ _ _ _ _)) | (go_at_call 32; exact Calls.regrown_of (comp0_b _ _ _ _ _)))) | quiet_step ((first | (go_at_call 34; exact Calls.regrown_of (unit0_b _)) | (go_at_call 26; exact Calls.regrown_of (dot0_b _ _ _ _ _)) | (go_at_call 32; exact Calls.regrown_of (comp0_b _ _ _ _ _)))))
      refine wpQuiet_nil ?_
      intro W hw'
      have B := below_regrown' hw'
      clear hw' k_a0 k_a1 k_a2 k_a3 k_s0 k_s1 k_s2 k_s3
      replace BB := bon BB B
      replace a0 := cell_below B a0
      replace a1 := cell_below B a1
      replace a2 := cell_below B a2
      replace a3 := cell_below B a3
      replace s0 := cell_below B s0
      replace s1 := cell_below B s1
      replace s2 := cell_below B s2
      replace s3 := cell_below B s3
      go_wp2_with fail
      go_roundw
      case rel => exact ⟨.inr (.inl rfl), BB, a0, a1, a2, a3, s0, s1, s2, s3⟩
      case measure => simp [intOf]
    · go_wp2_with fail
      have k_a0 := cell_regrown a0
      have k_a1 := cell_regrown a1
      have k_a2 := cell_regrown a2
      have k_a3 := cell_regrown a3
      have k_s0 := cell_regrown s0
      have k_s1 := cell_regrown s1
      have k_s2 := cell_regrown s2
      have k_s3 := cell_regrown s3
      refine wp_region_quiet_below (by kernel_rfl) (by kernel_rfl) ?_
      repeat (first | go_big_quiet_step ((first | (go_at_call 34; exact Calls.regrown_of (unit1_b _)) | (go_at_call 26; exact Calls.regrown_of (dot1_b _ _ _ _ _)) | (go_at_call 32; exact Calls.regrown_of (comp1_b _ _ _ _ _)))) | quiet_step ((first | (go_at_call 34; exact Calls.regrown_of (unit1_b _)) | (go_at_call 26; exact Calls.regrown_of (dot1_b _ _ _ _ _)) | (go_at_call 32; exact Calls.regrown_of (comp1_b _ _ _ _ _)))))
      refine wpQuiet_nil ?_
      intro W hw'
      have B := below_regrown' hw'
      clear hw' k_a0 k_a1 k_a2 k_a3 k_s0 k_s1 k_s2 k_s3
      replace BB := bon BB B
      replace a0 := cell_below B a0
      replace a1 := cell_below B a1
      replace a2 := cell_below B a2
      replace a3 := cell_below B a3
      replace s0 := cell_below B s0
      replace s1 := cell_below B s1
      replace s2 := cell_below B s2
      replace s3 := cell_below B s3
      go_wp2_with fail
      go_roundw
      case rel => exact ⟨.inr (.inr (.inl rfl)), BB, a0, a1, a2, a3, s0, s1, s2, s3⟩
      case measure => simp [intOf]
    · go_wp2_with fail
      have k_a0 := cell_regrown a0
      have k_a1 := cell_regrown a1
      have k_a2 := cell_regrown a2
      have k_a3 := cell_regrown a3
      have k_s0 := cell_regrown s0
      have k_s1 := cell_regrown s1
      have k_s2 := cell_regrown s2
      have k_s3 := cell_regrown s3
      refine wp_region_quiet_below (by kernel_rfl) (by kernel_rfl) ?_
      repeat (first | go_big_quiet_step ((first | (go_at_call 34; exact Calls.regrown_of (unit2_b _)) | (go_at_call 26; exact Calls.regrown_of (dot2_b _ _ _ _ _)) | (go_at_call 32; exact Calls.regrown_of (comp2_b _ _ _ _ _)))) | quiet_step ((first | (go_at_call 34; exact Calls.regrown_of (unit2_b _)) | (go_at_call 26; exact Calls.regrown_of (dot2_b _ _ _ _ _)) | (go_at_call 32; exact Calls.regrown_of (comp2_b _ _ _ _ _)))))
      refine wpQuiet_nil ?_
      intro W hw'
      have B := below_regrown' hw'
      clear hw' k_a0 k_a1 k_a2 k_a3 k_s0 k_s1 k_s2 k_s3
      replace BB := bon BB B
      replace a0 := cell_below B a0
      replace a1 := cell_below B a1
      replace a2 := cell_below B a2
      replace a3 := cell_below B a3
      replace s0 := cell_below B s0
      replace s1 := cell_below B s1
      replace s2 := cell_below B s2
      replace s3 := cell_below B s3
      go_wp2_with fail
      go_roundw
      case rel => exact ⟨.inr (.inr (.inr (.inl rfl))), BB, a0, a1, a2, a3, s0, s1, s2, s3⟩
      case measure => simp [intOf]
    · go_wp2_with fail
      have k_a0 := cell_regrown a0
      have k_a1 := cell_regrown a1
      have k_a2 := cell_regrown a2
      have k_a3 := cell_regrown a3
      have k_s0 := cell_regrown s0
      have k_s1 := cell_regrown s1
      have k_s2 := cell_regrown s2
      have k_s3 := cell_regrown s3
      refine wp_region_quiet_below (by kernel_rfl) (by kernel_rfl) ?_
      repeat (first | go_big_quiet_step ((first | (go_at_call 34; exact Calls.regrown_of (unit3_b _)) | (go_at_call 26; exact Calls.regrown_of (dot3_b _ _ _ _ _)) | (go_at_call 32; exact Calls.regrown_of (comp3_b _ _ _ _ _)))) | quiet_step ((first | (go_at_call 34; exact Calls.regrown_of (unit3_b _)) | (go_at_call 26; exact Calls.regrown_of (dot3_b _ _ _ _ _)) | (go_at_call 32; exact Calls.regrown_of (comp3_b _ _ _ _ _)))))
      refine wpQuiet_nil ?_
      intro W hw'
      have B := below_regrown' hw'
      clear hw' k_a0 k_a1 k_a2 k_a3 k_s0 k_s1 k_s2 k_s3
      replace BB := bon BB B
      replace a0 := cell_below B a0
      replace a1 := cell_below B a1
      replace a2 := cell_below B a2
      replace a3 := cell_below B a3
      replace s0 := cell_below B s0
      replace s1 := cell_below B s1
      replace s2 := cell_below B s2
      replace s3 := cell_below B s3
      go_wp2_with fail
      go_roundw
      case rel => exact ⟨.inr (.inr (.inr (.inr rfl))), BB, a0, a1, a2, a3, s0, s1, s2, s3⟩
      case measure => simp [intOf]
    · go_wp2_with (go_at_call 23; refine (clamp4 _ _ _ _ _).mono ?_; rintro _ W2 ⟨rfl, B⟩; (replace BB := bon BB B; replace a0 := cell_below B a0; replace a1 := cell_below B a1; replace a2 := cell_below B a2; replace a3 := cell_below B a3; replace s0 := cell_below B s0; replace s1 := cell_below B s1; replace s2 := cell_below B s2; replace s3 := cell_below B s3))
      obtain ⟨B, c0, c1, c2, c3, BB⟩ := box4_on BB (.int .i64 (clampv x0 0 65536)) (.int .i64 (clampv x1 0 65536)) (.int .i64 (clampv x2 0 65536)) (.int .i64 (clampv x3 0 65536)) 23
      refine letter (S := fun w' => Below w.heap.size w w' ∧ w'.cell? ⟨w.heap.size, 0, none⟩ = some (.int .i64 x0) ∧ w'.cell? ⟨w.heap.size, 1, none⟩ = some (.int .i64 x1) ∧ w'.cell? ⟨w.heap.size, 2, none⟩ = some (.int .i64 x2) ∧ w'.cell? ⟨w.heap.size, 3, none⟩ = some (.int .i64 x3) ∧ w'.cell? ⟨sb, 0, none⟩ = some (.int .i64 (sat x0)) ∧ w'.cell? ⟨sb, 1, none⟩ = some (.int .i64 (sat x1)) ∧ w'.cell? ⟨sb, 2, none⟩ = some (.int .i64 (sat x2)) ∧ w'.cell? ⟨sb, 3, none⟩ = some (.int .i64 (sat x3)) ∧ w'.cell? ⟨W2.heap.size, 0, none⟩ = some (.int .i64 (clampv x0 0 65536)) ∧ w'.cell? ⟨W2.heap.size, 1, none⟩ = some (.int .i64 (clampv x1 0 65536)) ∧ w'.cell? ⟨W2.heap.size, 2, none⟩ = some (.int .i64 (clampv x2 0 65536)) ∧ w'.cell? ⟨W2.heap.size, 3, none⟩ = some (.int .i64 (clampv x3 0 65536))) ?_ ⟨BB, cell_below B a0, cell_below B a1, cell_below B a2, cell_below B a3, cell_below B s0, cell_below B s1, cell_below B s2, cell_below B s3, c0, c1, c2, c3⟩
      clear BB B a0 a1 a2 a3 s0 s1 s2 s3 c0 c1 c2 c3
      rintro W3 ⟨BB, a0, a1, a2, a3, s0, s1, s2, s3, c0, c1, c2, c3⟩
      generalize W2.heap.size = cb at *
      have E0 := clamp_clamp x0
      have F0 := clamp_of_sat x0
      have E1 := clamp_clamp x1
      have F1 := clamp_of_sat x1
      have E2 := clamp_clamp x2
      have F2 := clamp_of_sat x2
      have E3 := clamp_clamp x3
      have F3 := clamp_of_sat x3
      have k_a0 := cell_regrown a0
      have k_a1 := cell_regrown a1
      have k_a2 := cell_regrown a2
      have k_a3 := cell_regrown a3
      have k_s0 := cell_regrown s0
      have k_s1 := cell_regrown s1
      have k_s2 := cell_regrown s2
      have k_s3 := cell_regrown s3
      have k_c0 := cell_regrown c0
      have k_c1 := cell_regrown c1
      have k_c2 := cell_regrown c2
      have k_c3 := cell_regrown c3
      refine wp_region_quiet_below (by kernel_rfl) (by kernel_rfl) ?_
      repeat (first | go_big_quiet_step ((first | (go_at_call 15; exact Calls.regrown_of (scale4one _ _ _ _ _)) | (go_at_call 23; exact Calls.regrown_of (clamp4 _ _ _ _ _)) | (go_at_call 19; exact Calls.regrown_of (min4c _ _ _ _ _)) | (go_at_call 25; exact Calls.regrown_of (example_b _)))) | quiet_step ((first | (go_at_call 15; exact Calls.regrown_of (scale4one _ _ _ _ _)) | (go_at_call 23; exact Calls.regrown_of (clamp4 _ _ _ _ _)) | (go_at_call 19; exact Calls.regrown_of (min4c _ _ _ _ _)) | (go_at_call 25; exact Calls.regrown_of (example_b _)))))
      refine wpQuiet_nil ?_
      intro W hw'
      have B := below_regrown' hw'
      clear hw' k_a0 k_a1 k_a2 k_a3 k_s0 k_s1 k_s2 k_s3 k_c0 k_c1 k_c2 k_c3
      replace BB := bon BB B
      replace a0 := cell_below B a0
      replace a1 := cell_below B a1
      replace a2 := cell_below B a2
      replace a3 := cell_below B a3
      replace s0 := cell_below B s0
      replace s1 := cell_below B s1
      replace s2 := cell_below B s2
      replace s3 := cell_below B s3
      replace c0 := cell_below B c0
      replace c1 := cell_below B c1
      replace c2 := cell_below B c2
      replace c3 := cell_below B c3
      go_wp2_with fail
      go_ret
      exact ⟨rfl, BB⟩

end Go.Proofs.Ytaonchonpikfmaa
