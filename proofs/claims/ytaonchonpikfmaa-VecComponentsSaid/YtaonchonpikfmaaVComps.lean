/- The walk of the law VecComponents. -/
import Derived.Test.YtaonchonpikfmaaVUnit
import Derived.Test.YtaonchonpikfmaaGrow
namespace Go.Proofs.Ytaonchonpikfmaa
open Go.RowKit Go.Sort

theorem of_list_b (b : Nat) (x0 x1 x2 x3 : Int) (w : World) (h0 : w.cell? ⟨b, 0, none⟩ = some (.int .i64 x0)) (h1 : w.cell? ⟨b, 1, none⟩ = some (.int .i64 x1)) (h2 : w.cell? ⟨b, 2, none⟩ = some (.int .i64 x2)) (h3 : w.cell? ⟨b, 3, none⟩ = some (.int .i64 x3)) :
    Calls Try.prog 30 #[.slice (some ⟨b, 0, none⟩) 4 4] w fun e w' => e = .returned (.agg #[.int .i64 x0, .int .i64 x1, .int .i64 x2, .int .i64 x3]) ∧ Below w.heap.size w w' :=
  of_4 b 0 4 4 x0 x1 x2 x3 w (by omega) h0 h1 h2 h3

/-- The components of a vector with component i replaced. -/
def WithIs (i x x0 x1 x2 x3 u0 u1 u2 u3 : Int) : Prop :=
  ((i = 0 ∧ u0 = x) ∨ (i ≠ 0 ∧ u0 = x0)) ∧ ((i = 1 ∧ u1 = x) ∨ (i ≠ 1 ∧ u1 = x1)) ∧ ((i = 2 ∧ u2 = x) ∨ (i ≠ 2 ∧ u2 = x2)) ∧ ((i = 3 ∧ u3 = x) ∨ (i ≠ 3 ∧ u3 = x3))
theorem withIs (i x x0 x1 x2 x3 : Int) : WithIs i x x0 x1 x2 x3 (withv i x 0 x0) (withv i x 1 x1) (withv i x 2 x2) (withv i x 3 x3) := by
  unfold WithIs withv
  refine ⟨?_, ?_, ?_, ?_⟩ <;> (split <;> simp_all)

set_option maxRecDepth 100000 in
set_option maxHeartbeats 2000000 in
theorem components_walk (x0 x1 x2 x3 i x : Int) (w : World) :
    Calls Try.prog 7 #[.agg #[.int .i64 x0, .int .i64 x1, .int .i64 x2, .int .i64 x3], .int .i64 i, .int .i64 x] w fun e w' => e = .returned (.bool true) ∧ Below w.heap.size w w' := by
  obtain ⟨a0, a1, a2, a3, BB⟩ := box4 w (.int .i64 x0) (.int .i64 x1) (.int .i64 x2) (.int .i64 x3) 23
  go_enter Try.func7, Try.ntmps7
  go_wp2_with (go_at_call 34; refine (with_b _ _ _ _ _ _ _).mono ?_; rintro _ W1 ⟨rfl, B⟩; replace BB := bon BB B; replace a0 := cell_below B a0; replace a1 := cell_below B a1; replace a2 := cell_below B a2; replace a3 := cell_below B a3; clear B)
  obtain ⟨B, c0, c1, c2, c3, BB⟩ := box4_on BB (.int .i64 (withv i x 0 x0)) (.int .i64 (withv i x 1 x1)) (.int .i64 (withv i x 2 x2)) (.int .i64 (withv i x 3 x3)) 23
  refine letter (S := fun w' => Below w.heap.size w w' ∧ w'.cell? ⟨w.heap.size, 0, none⟩ = some (.int .i64 x0) ∧ w'.cell? ⟨w.heap.size, 1, none⟩ = some (.int .i64 x1) ∧ w'.cell? ⟨w.heap.size, 2, none⟩ = some (.int .i64 x2) ∧ w'.cell? ⟨w.heap.size, 3, none⟩ = some (.int .i64 x3) ∧ w'.cell? ⟨W1.heap.size, 0, none⟩ = some (.int .i64 (withv i x 0 x0)) ∧ w'.cell? ⟨W1.heap.size, 1, none⟩ = some (.int .i64 (withv i x 1 x1)) ∧ w'.cell? ⟨W1.heap.size, 2, none⟩ = some (.int .i64 (withv i x 2 x2)) ∧ w'.cell? ⟨W1.heap.size, 3, none⟩ = some (.int .i64 (withv i x 3 x3))) ?_ ⟨BB, cell_below B a0, cell_below B a1, cell_below B a2, cell_below B a3, c0, c1, c2, c3⟩
  clear BB B a0 a1 a2 a3 c0 c1 c2 c3
  rintro W ⟨BB, a0, a1, a2, a3, c0, c1, c2, c3⟩
  generalize W1.heap.size = sb at *
  have hu := withIs i x x0 x1 x2 x3
  generalize withv i x 0 x0 = u0 at *
  generalize withv i x 1 x1 = u1 at *
  generalize withv i x 2 x2 = u2 at *
  generalize withv i x 3 x3 = u3 at *
  have HU := Lib.hid hu
  clear hu
  go_loopw [8, 9] (fun i _ w' => (i = .int .i64 0 ∨ i = .int .i64 1 ∨ i = .int .i64 2 ∨ i = .int .i64 3 ∨ i = .int .i64 4) ∧ Below w.heap.size w w' ∧ w'.cell? ⟨w.heap.size, 0, none⟩ = some (.int .i64 x0) ∧ w'.cell? ⟨w.heap.size, 1, none⟩ = some (.int .i64 x1) ∧ w'.cell? ⟨w.heap.size, 2, none⟩ = some (.int .i64 x2) ∧ w'.cell? ⟨w.heap.size, 3, none⟩ = some (.int .i64 x3) ∧ w'.cell? ⟨sb, 0, none⟩ = some (.int .i64 u0) ∧ w'.cell? ⟨sb, 1, none⟩ = some (.int .i64 u1) ∧ w'.cell? ⟨sb, 2, none⟩ = some (.int .i64 u2) ∧ w'.cell? ⟨sb, 3, none⟩ = some (.int .i64 u3)) (fun i _ _ => (4 - intOf i).toNat)
  case atStart => exact ⟨.inl rfl, BB, a0, a1, a2, a3, c0, c1, c2, c3⟩
  case round =>
    clear BB a0 a1 a2 a3 c0 c1 c2 c3
    obtain ⟨hk, BB, a0, a1, a2, a3, c0, c1, c2, c3⟩ := hrel
    rcases hk with rfl | rfl | rfl | rfl | rfl
    · rcases HU.out.1 with ⟨hi, hv⟩ | ⟨hi, hv⟩
      · subst hi hv
        go_wp2_with (first | (go_at_call 32; refine (comp0_b _ _ _ _ _).mono ?_; rintro _ _ ⟨rfl, B⟩; replace BB := bon BB B; replace a0 := cell_below B a0; replace a1 := cell_below B a1; replace a2 := cell_below B a2; replace a3 := cell_below B a3; replace c0 := cell_below B c0; replace c1 := cell_below B c1; replace c2 := cell_below B c2; replace c3 := cell_below B c3))
        go_roundw
        case rel => exact ⟨.inr (.inl rfl), BB, a0, a1, a2, a3, c0, c1, c2, c3⟩
        case measure => simp [intOf]
      · subst hv
        have hi2 : ¬ 0 = i := fun h => hi h.symm
        clear hi
        go_wp2_with (first | (go_at_call 32; refine (comp0_b _ _ _ _ _).mono ?_; rintro _ _ ⟨rfl, B⟩; replace BB := bon BB B; replace a0 := cell_below B a0; replace a1 := cell_below B a1; replace a2 := cell_below B a2; replace a3 := cell_below B a3; replace c0 := cell_below B c0; replace c1 := cell_below B c1; replace c2 := cell_below B c2; replace c3 := cell_below B c3))
        go_roundw
        case rel => exact ⟨.inr (.inl rfl), BB, a0, a1, a2, a3, c0, c1, c2, c3⟩
        case measure => simp [intOf]
    · rcases HU.out.2.1 with ⟨hi, hv⟩ | ⟨hi, hv⟩
      · subst hi hv
        go_wp2_with (first | (go_at_call 32; refine (comp1_b _ _ _ _ _).mono ?_; rintro _ _ ⟨rfl, B⟩; replace BB := bon BB B; replace a0 := cell_below B a0; replace a1 := cell_below B a1; replace a2 := cell_below B a2; replace a3 := cell_below B a3; replace c0 := cell_below B c0; replace c1 := cell_below B c1; replace c2 := cell_below B c2; replace c3 := cell_below B c3))
        go_roundw
        case rel => exact ⟨.inr (.inr (.inl rfl)), BB, a0, a1, a2, a3, c0, c1, c2, c3⟩
        case measure => simp [intOf]
      · subst hv
        have hi2 : ¬ 1 = i := fun h => hi h.symm
        clear hi
        go_wp2_with (first | (go_at_call 32; refine (comp1_b _ _ _ _ _).mono ?_; rintro _ _ ⟨rfl, B⟩; replace BB := bon BB B; replace a0 := cell_below B a0; replace a1 := cell_below B a1; replace a2 := cell_below B a2; replace a3 := cell_below B a3; replace c0 := cell_below B c0; replace c1 := cell_below B c1; replace c2 := cell_below B c2; replace c3 := cell_below B c3))
        go_roundw
        case rel => exact ⟨.inr (.inr (.inl rfl)), BB, a0, a1, a2, a3, c0, c1, c2, c3⟩
        case measure => simp [intOf]
    · rcases HU.out.2.2.1 with ⟨hi, hv⟩ | ⟨hi, hv⟩
      · subst hi hv
        go_wp2_with (first | (go_at_call 32; refine (comp2_b _ _ _ _ _).mono ?_; rintro _ _ ⟨rfl, B⟩; replace BB := bon BB B; replace a0 := cell_below B a0; replace a1 := cell_below B a1; replace a2 := cell_below B a2; replace a3 := cell_below B a3; replace c0 := cell_below B c0; replace c1 := cell_below B c1; replace c2 := cell_below B c2; replace c3 := cell_below B c3))
        go_roundw
        case rel => exact ⟨.inr (.inr (.inr (.inl rfl))), BB, a0, a1, a2, a3, c0, c1, c2, c3⟩
        case measure => simp [intOf]
      · subst hv
        have hi2 : ¬ 2 = i := fun h => hi h.symm
        clear hi
        go_wp2_with (first | (go_at_call 32; refine (comp2_b _ _ _ _ _).mono ?_; rintro _ _ ⟨rfl, B⟩; replace BB := bon BB B; replace a0 := cell_below B a0; replace a1 := cell_below B a1; replace a2 := cell_below B a2; replace a3 := cell_below B a3; replace c0 := cell_below B c0; replace c1 := cell_below B c1; replace c2 := cell_below B c2; replace c3 := cell_below B c3))
        go_roundw
        case rel => exact ⟨.inr (.inr (.inr (.inl rfl))), BB, a0, a1, a2, a3, c0, c1, c2, c3⟩
        case measure => simp [intOf]
    · rcases HU.out.2.2.2 with ⟨hi, hv⟩ | ⟨hi, hv⟩
      · subst hi hv
        go_wp2_with (first | (go_at_call 32; refine (comp3_b _ _ _ _ _).mono ?_; rintro _ _ ⟨rfl, B⟩; replace BB := bon BB B; replace a0 := cell_below B a0; replace a1 := cell_below B a1; replace a2 := cell_below B a2; replace a3 := cell_below B a3; replace c0 := cell_below B c0; replace c1 := cell_below B c1; replace c2 := cell_below B c2; replace c3 := cell_below B c3))
        go_roundw
        case rel => exact ⟨.inr (.inr (.inr (.inr rfl))), BB, a0, a1, a2, a3, c0, c1, c2, c3⟩
        case measure => simp [intOf]
      · subst hv
        have hi2 : ¬ 3 = i := fun h => hi h.symm
        clear hi
        go_wp2_with (first | (go_at_call 32; refine (comp3_b _ _ _ _ _).mono ?_; rintro _ _ ⟨rfl, B⟩; replace BB := bon BB B; replace a0 := cell_below B a0; replace a1 := cell_below B a1; replace a2 := cell_below B a2; replace a3 := cell_below B a3; replace c0 := cell_below B c0; replace c1 := cell_below B c1; replace c2 := cell_below B c2; replace c3 := cell_below B c3))
        go_roundw
        case rel => exact ⟨.inr (.inr (.inr (.inr rfl))), BB, a0, a1, a2, a3, c0, c1, c2, c3⟩
        case measure => simp [intOf]
    · have hu := HU.out
      unfold WithIs at hu
      by_cases hi : 0 ≤ i ∧ i < 4
      · obtain ⟨hi1, hi2⟩ := hi
        clear hu
        have e1 : decide (0 ≤ i) = true := decide_eq_true hi1
        have e2 : decide (i < 4) = true := decide_eq_true hi2
        go_wp2_with fail
        refine wp_region_grow [0, 3, 1, 2, 4, 5, 6, 7, 8, 9, 10, 11, 12, 13, 14, 15, 16, 17, 18, 19, 20, 21] (by kernel_rfl) (by kernel_rfl) ?_
        intro W B
        replace BB := bon BB B
        replace a0 := cell_below B a0
        replace a1 := cell_below B a1
        replace a2 := cell_below B a2
        replace a3 := cell_below B a3
        replace c0 := cell_below B c0
        replace c1 := cell_below B c1
        replace c2 := cell_below B c2
        replace c3 := cell_below B c3
        clear B
        have k_a0 := cell_regrown a0
        have k_a1 := cell_regrown a1
        have k_a2 := cell_regrown a2
        have k_a3 := cell_regrown a3
        have k_c0 := cell_regrown c0
        have k_c1 := cell_regrown c1
        have k_c2 := cell_regrown c2
        have k_c3 := cell_regrown c3
        refine grow_read rfl rfl ?_
        (first | go_big_quiet_step (fail) | quiet_step (fail))
        refine wpQuiet_nil ?_
        refine grow_read rfl rfl ?_
        (first | go_big_quiet_step (fail) | quiet_step (fail))
        refine wpQuiet_nil ?_
        clear k_a0 k_a1 k_a2 k_a3 k_c0 k_c1 k_c2 k_c3
        refine grow_call rfl rfl ?_
        go_wp2_with (go_at_call 28; refine (list_b _ _ _ _ _).mono ?_; rintro _ _ ⟨lb, rfl, l0, l1, l2, l3, B⟩; replace BB := bon BB B; replace a0 := cell_below B a0; replace a1 := cell_below B a1; replace a2 := cell_below B a2; replace a3 := cell_below B a3; replace c0 := cell_below B c0; replace c1 := cell_below B c1; replace c2 := cell_below B c2; replace c3 := cell_below B c3)
        refine ⟨Grows.of B, ?_⟩
        clear B
        have k_a0 := cell_regrown a0
        have k_a1 := cell_regrown a1
        have k_a2 := cell_regrown a2
        have k_a3 := cell_regrown a3
        have k_c0 := cell_regrown c0
        have k_c1 := cell_regrown c1
        have k_c2 := cell_regrown c2
        have k_c3 := cell_regrown c3
        have k_l0 := cell_regrown l0
        have k_l1 := cell_regrown l1
        have k_l2 := cell_regrown l2
        have k_l3 := cell_regrown l3
        clear k_a0 k_a1 k_a2 k_a3 k_c0 k_c1 k_c2 k_c3 k_l0 k_l1 k_l2 k_l3
        refine grow_call rfl rfl ?_
        go_wp2_with (go_at_call 30; refine (of_list_b lb _ _ _ _ _ l0 l1 l2 l3).mono ?_; rintro _ _ ⟨rfl, B⟩; replace BB := bon BB B; replace a0 := cell_below B a0; replace a1 := cell_below B a1; replace a2 := cell_below B a2; replace a3 := cell_below B a3; replace c0 := cell_below B c0; replace c1 := cell_below B c1; replace c2 := cell_below B c2; replace c3 := cell_below B c3; replace l0 := cell_below B l0; replace l1 := cell_below B l1; replace l2 := cell_below B l2; replace l3 := cell_below B l3)
        refine ⟨Grows.of B, ?_⟩
        clear B
        have k_a0 := cell_regrown a0
        have k_a1 := cell_regrown a1
        have k_a2 := cell_regrown a2
        have k_a3 := cell_regrown a3
        have k_c0 := cell_regrown c0
        have k_c1 := cell_regrown c1
        have k_c2 := cell_regrown c2
        have k_c3 := cell_regrown c3
        have k_l0 := cell_regrown l0
        have k_l1 := cell_regrown l1
        have k_l2 := cell_regrown l2
        have k_l3 := cell_regrown l3
        refine grow_read rfl rfl ?_
        (first | go_big_quiet_step (fail) | quiet_step (fail))
        refine wpQuiet_nil ?_
        refine grow_read rfl rfl ?_
        (first | go_big_quiet_step (fail) | quiet_step (fail))
        refine wpQuiet_nil ?_
        refine grow_read rfl rfl ?_
        (first | go_big_quiet_step (fail) | quiet_step (fail))
        refine wpQuiet_nil ?_
        refine grow_read rfl rfl ?_
        (first | go_big_quiet_step (fail) | quiet_step (fail))
        refine wpQuiet_nil ?_
        refine grow_read rfl rfl ?_
        (first | go_big_quiet_step (fail) | quiet_step (fail))
        refine wpQuiet_nil ?_
        refine grow_read rfl rfl ?_
        (first | go_big_quiet_step (fail) | quiet_step (fail))
        refine wpQuiet_nil ?_
        refine grow_read rfl rfl ?_
        (first | go_big_quiet_step (fail) | quiet_step (fail))
        refine wpQuiet_nil ?_
        refine grow_read rfl rfl ?_
        (first | go_big_quiet_step (fail) | quiet_step (fail))
        refine wpQuiet_nil ?_
        refine grow_read rfl rfl ?_
        (first | go_big_quiet_step (fail) | quiet_step (fail))
        refine wpQuiet_nil ?_
        refine grow_read rfl rfl ?_
        (first | go_big_quiet_step (fail) | quiet_step (fail))
        refine wpQuiet_nil ?_
        refine grow_read rfl rfl ?_
        (first | go_big_quiet_step (fail) | quiet_step (fail))
        refine wpQuiet_nil ?_
        refine grow_read rfl rfl ?_
        (first | go_big_quiet_step (fail) | quiet_step (fail))
        refine wpQuiet_nil ?_
        refine grow_read rfl rfl ?_
        (first | go_big_quiet_step (fail) | quiet_step (fail))
        refine wpQuiet_nil ?_
        refine grow_read rfl rfl ?_
        (first | go_big_quiet_step (fail) | quiet_step (fail))
        refine wpQuiet_nil ?_
        refine grow_read rfl rfl ?_
        (first | go_big_quiet_step (fail) | quiet_step (fail))
        refine wpQuiet_nil ?_
        clear k_a0 k_a1 k_a2 k_a3 k_c0 k_c1 k_c2 k_c3 k_l0 k_l1 k_l2 k_l3
        refine grow_call rfl rfl ?_
        go_wp2_with (go_at_call 25; refine (example_b _).mono ?_; rintro _ _ ⟨rfl, B⟩; replace BB := bon BB B; replace a0 := cell_below B a0; replace a1 := cell_below B a1; replace a2 := cell_below B a2; replace a3 := cell_below B a3; replace c0 := cell_below B c0; replace c1 := cell_below B c1; replace c2 := cell_below B c2; replace c3 := cell_below B c3; replace l0 := cell_below B l0; replace l1 := cell_below B l1; replace l2 := cell_below B l2; replace l3 := cell_below B l3)
        refine ⟨Grows.of B, ?_⟩
        clear B
        have k_a0 := cell_regrown a0
        have k_a1 := cell_regrown a1
        have k_a2 := cell_regrown a2
        have k_a3 := cell_regrown a3
        have k_c0 := cell_regrown c0
        have k_c1 := cell_regrown c1
        have k_c2 := cell_regrown c2
        have k_c3 := cell_regrown c3
        have k_l0 := cell_regrown l0
        have k_l1 := cell_regrown l1
        have k_l2 := cell_regrown l2
        have k_l3 := cell_regrown l3
        refine grow_read rfl rfl ?_
        (first | go_big_quiet_step (fail) | quiet_step (fail))
        refine wpQuiet_nil ?_
        refine grow_read rfl rfl ?_
        (first | go_big_quiet_step (fail) | quiet_step (fail))
        refine wpQuiet_nil ?_
        clear k_a0 k_a1 k_a2 k_a3 k_c0 k_c1 k_c2 k_c3 k_l0 k_l1 k_l2 k_l3
        refine grow_nil ?_
        go_wp2_with fail
        go_ret
        exact ⟨rfl, BB⟩
      · obtain rfl : x0 = u0 := by omega
        obtain rfl : x1 = u1 := by omega
        obtain rfl : x2 = u2 := by omega
        obtain rfl : x3 = u3 := by omega
        clear hu
        have hi3 : i < 0 ∨ (0 ≤ i ∧ 4 ≤ i) := by omega
        clear hi
        rcases hi3 with hi | ⟨hi1, hi2⟩
        · have e1 : decide (0 ≤ i) = false := decide_eq_false (by omega)
          go_wp2_with fail
          refine wp_region_grow [0, 3, 1, 2, 4, 5, 6, 7, 8, 9, 10, 11, 12, 13, 14, 15, 16, 17, 18, 19, 20, 21] (by kernel_rfl) (by kernel_rfl) ?_
          intro W B
          replace BB := bon BB B
          replace a0 := cell_below B a0
          replace a1 := cell_below B a1
          replace a2 := cell_below B a2
          replace a3 := cell_below B a3
          replace c0 := cell_below B c0
          replace c1 := cell_below B c1
          replace c2 := cell_below B c2
          replace c3 := cell_below B c3
          clear B
          have k_a0 := cell_regrown a0
          have k_a1 := cell_regrown a1
          have k_a2 := cell_regrown a2
          have k_a3 := cell_regrown a3
          have k_c0 := cell_regrown c0
          have k_c1 := cell_regrown c1
          have k_c2 := cell_regrown c2
          have k_c3 := cell_regrown c3
          refine grow_read rfl rfl ?_
          (first | go_big_quiet_step (fail) | quiet_step (fail))
          refine wpQuiet_nil ?_
          refine grow_read rfl rfl ?_
          (first | go_big_quiet_step (fail) | quiet_step (fail))
          refine wpQuiet_nil ?_
          clear k_a0 k_a1 k_a2 k_a3 k_c0 k_c1 k_c2 k_c3
          refine grow_call rfl rfl ?_
          go_wp2_with (go_at_call 28; refine (list_b _ _ _ _ _).mono ?_; rintro _ _ ⟨lb, rfl, l0, l1, l2, l3, B⟩; replace BB := bon BB B; replace a0 := cell_below B a0; replace a1 := cell_below B a1; replace a2 := cell_below B a2; replace a3 := cell_below B a3; replace c0 := cell_below B c0; replace c1 := cell_below B c1; replace c2 := cell_below B c2; replace c3 := cell_below B c3)
          refine ⟨Grows.of B, ?_⟩
          clear B
          have k_a0 := cell_regrown a0
          have k_a1 := cell_regrown a1
          have k_a2 := cell_regrown a2
          have k_a3 := cell_regrown a3
          have k_c0 := cell_regrown c0
          have k_c1 := cell_regrown c1
          have k_c2 := cell_regrown c2
          have k_c3 := cell_regrown c3
          have k_l0 := cell_regrown l0
          have k_l1 := cell_regrown l1
          have k_l2 := cell_regrown l2
          have k_l3 := cell_regrown l3
          clear k_a0 k_a1 k_a2 k_a3 k_c0 k_c1 k_c2 k_c3 k_l0 k_l1 k_l2 k_l3
          refine grow_call rfl rfl ?_
          go_wp2_with (go_at_call 30; refine (of_list_b lb _ _ _ _ _ l0 l1 l2 l3).mono ?_; rintro _ _ ⟨rfl, B⟩; replace BB := bon BB B; replace a0 := cell_below B a0; replace a1 := cell_below B a1; replace a2 := cell_below B a2; replace a3 := cell_below B a3; replace c0 := cell_below B c0; replace c1 := cell_below B c1; replace c2 := cell_below B c2; replace c3 := cell_below B c3; replace l0 := cell_below B l0; replace l1 := cell_below B l1; replace l2 := cell_below B l2; replace l3 := cell_below B l3)
          refine ⟨Grows.of B, ?_⟩
          clear B
          have k_a0 := cell_regrown a0
          have k_a1 := cell_regrown a1
          have k_a2 := cell_regrown a2
          have k_a3 := cell_regrown a3
          have k_c0 := cell_regrown c0
          have k_c1 := cell_regrown c1
          have k_c2 := cell_regrown c2
          have k_c3 := cell_regrown c3
          have k_l0 := cell_regrown l0
          have k_l1 := cell_regrown l1
          have k_l2 := cell_regrown l2
          have k_l3 := cell_regrown l3
          refine grow_read rfl rfl ?_
          (first | go_big_quiet_step (fail) | quiet_step (fail))
          refine wpQuiet_nil ?_
          refine grow_read rfl rfl ?_
          (first | go_big_quiet_step (fail) | quiet_step (fail))
          refine wpQuiet_nil ?_
          refine grow_read rfl rfl ?_
          (first | go_big_quiet_step (fail) | quiet_step (fail))
          refine wpQuiet_nil ?_
          refine grow_read rfl rfl ?_
          (first | go_big_quiet_step (fail) | quiet_step (fail))
          refine wpQuiet_nil ?_
          refine grow_read rfl rfl ?_
          (first | go_big_quiet_step (fail) | quiet_step (fail))
          refine wpQuiet_nil ?_
          refine grow_read rfl rfl ?_
          (first | go_big_quiet_step (fail) | quiet_step (fail))
          refine wpQuiet_nil ?_
          refine grow_read rfl rfl ?_
          (first | go_big_quiet_step (fail) | quiet_step (fail))
          refine wpQuiet_nil ?_
          refine grow_read rfl rfl ?_
          (first | go_big_quiet_step (fail) | quiet_step (fail))
          refine wpQuiet_nil ?_
          refine grow_read rfl rfl ?_
          (first | go_big_quiet_step (fail) | quiet_step (fail))
          refine wpQuiet_nil ?_
          refine grow_read rfl rfl ?_
          (first | go_big_quiet_step (fail) | quiet_step (fail))
          refine wpQuiet_nil ?_
          refine grow_read rfl rfl ?_
          (first | go_big_quiet_step (fail) | quiet_step (fail))
          refine wpQuiet_nil ?_
          refine grow_read rfl rfl ?_
          (first | go_big_quiet_step (fail) | quiet_step (fail))
          refine wpQuiet_nil ?_
          refine grow_read rfl rfl ?_
          (first | go_big_quiet_step (fail) | quiet_step (fail))
          refine wpQuiet_nil ?_
          refine grow_read rfl rfl ?_
          (first | go_big_quiet_step (fail) | quiet_step (fail))
          refine wpQuiet_nil ?_
          refine grow_read rfl rfl ?_
          (first | go_big_quiet_step (fail) | quiet_step (fail))
          refine wpQuiet_nil ?_
          clear k_a0 k_a1 k_a2 k_a3 k_c0 k_c1 k_c2 k_c3 k_l0 k_l1 k_l2 k_l3
          refine grow_call rfl rfl ?_
          go_wp2_with (go_at_call 25; refine (example_b _).mono ?_; rintro _ _ ⟨rfl, B⟩; replace BB := bon BB B; replace a0 := cell_below B a0; replace a1 := cell_below B a1; replace a2 := cell_below B a2; replace a3 := cell_below B a3; replace c0 := cell_below B c0; replace c1 := cell_below B c1; replace c2 := cell_below B c2; replace c3 := cell_below B c3; replace l0 := cell_below B l0; replace l1 := cell_below B l1; replace l2 := cell_below B l2; replace l3 := cell_below B l3)
          refine ⟨Grows.of B, ?_⟩
          clear B
          have k_a0 := cell_regrown a0
          have k_a1 := cell_regrown a1
          have k_a2 := cell_regrown a2
          have k_a3 := cell_regrown a3
          have k_c0 := cell_regrown c0
          have k_c1 := cell_regrown c1
          have k_c2 := cell_regrown c2
          have k_c3 := cell_regrown c3
          have k_l0 := cell_regrown l0
          have k_l1 := cell_regrown l1
          have k_l2 := cell_regrown l2
          have k_l3 := cell_regrown l3
          refine grow_read rfl rfl ?_
          (first | go_big_quiet_step (fail) | quiet_step (fail))
          refine wpQuiet_nil ?_
          refine grow_read rfl rfl ?_
          (first | go_big_quiet_step (fail) | quiet_step (fail))
          refine wpQuiet_nil ?_
          clear k_a0 k_a1 k_a2 k_a3 k_c0 k_c1 k_c2 k_c3 k_l0 k_l1 k_l2 k_l3
          refine grow_nil ?_
          go_wp2_with fail
          go_ret
          exact ⟨rfl, BB⟩
        · have e1 : decide (0 ≤ i) = true := decide_eq_true hi1
          have e2 : decide (i < 4) = false := decide_eq_false (by omega)
          go_wp2_with fail
          refine wp_region_grow [0, 3, 1, 2, 4, 5, 6, 7, 8, 9, 10, 11, 12, 13, 14, 15, 16, 17, 18, 19, 20, 21] (by kernel_rfl) (by kernel_rfl) ?_
          intro W B
          replace BB := bon BB B
          replace a0 := cell_below B a0
          replace a1 := cell_below B a1
          replace a2 := cell_below B a2
          replace a3 := cell_below B a3
          replace c0 := cell_below B c0
          replace c1 := cell_below B c1
          replace c2 := cell_below B c2
          replace c3 := cell_below B c3
          clear B
          have k_a0 := cell_regrown a0
          have k_a1 := cell_regrown a1
          have k_a2 := cell_regrown a2
          have k_a3 := cell_regrown a3
          have k_c0 := cell_regrown c0
          have k_c1 := cell_regrown c1
          have k_c2 := cell_regrown c2
          have k_c3 := cell_regrown c3
          refine grow_read rfl rfl ?_
          (first | go_big_quiet_step (fail) | quiet_step (fail))
          refine wpQuiet_nil ?_
          refine grow_read rfl rfl ?_
          (first | go_big_quiet_step (fail) | quiet_step (fail))
          refine wpQuiet_nil ?_
          clear k_a0 k_a1 k_a2 k_a3 k_c0 k_c1 k_c2 k_c3
          refine grow_call rfl rfl ?_
          go_wp2_with (go_at_call 28; refine (list_b _ _ _ _ _).mono ?_; rintro _ _ ⟨lb, rfl, l0, l1, l2, l3, B⟩; replace BB := bon BB B; replace a0 := cell_below B a0; replace a1 := cell_below B a1; replace a2 := cell_below B a2; replace a3 := cell_below B a3; replace c0 := cell_below B c0; replace c1 := cell_below B c1; replace c2 := cell_below B c2; replace c3 := cell_below B c3)
          refine ⟨Grows.of B, ?_⟩
          clear B
          have k_a0 := cell_regrown a0
          have k_a1 := cell_regrown a1
          have k_a2 := cell_regrown a2
          have k_a3 := cell_regrown a3
          have k_c0 := cell_regrown c0
          have k_c1 := cell_regrown c1
          have k_c2 := cell_regrown c2
          have k_c3 := cell_regrown c3
          have k_l0 := cell_regrown l0
          have k_l1 := cell_regrown l1
          have k_l2 := cell_regrown l2
          have k_l3 := cell_regrown l3
          clear k_a0 k_a1 k_a2 k_a3 k_c0 k_c1 k_c2 k_c3 k_l0 k_l1 k_l2 k_l3
          refine grow_call rfl rfl ?_
          go_wp2_with (go_at_call 30; refine (of_list_b lb _ _ _ _ _ l0 l1 l2 l3).mono ?_; rintro _ _ ⟨rfl, B⟩; replace BB := bon BB B; replace a0 := cell_below B a0; replace a1 := cell_below B a1; replace a2 := cell_below B a2; replace a3 := cell_below B a3; replace c0 := cell_below B c0; replace c1 := cell_below B c1; replace c2 := cell_below B c2; replace c3 := cell_below B c3; replace l0 := cell_below B l0; replace l1 := cell_below B l1; replace l2 := cell_below B l2; replace l3 := cell_below B l3)
          refine ⟨Grows.of B, ?_⟩
          clear B
          have k_a0 := cell_regrown a0
          have k_a1 := cell_regrown a1
          have k_a2 := cell_regrown a2
          have k_a3 := cell_regrown a3
          have k_c0 := cell_regrown c0
          have k_c1 := cell_regrown c1
          have k_c2 := cell_regrown c2
          have k_c3 := cell_regrown c3
          have k_l0 := cell_regrown l0
          have k_l1 := cell_regrown l1
          have k_l2 := cell_regrown l2
          have k_l3 := cell_regrown l3
          refine grow_read rfl rfl ?_
          (first | go_big_quiet_step (fail) | quiet_step (fail))
          refine wpQuiet_nil ?_
          refine grow_read rfl rfl ?_
          (first | go_big_quiet_step (fail) | quiet_step (fail))
          refine wpQuiet_nil ?_
          refine grow_read rfl rfl ?_
          (first | go_big_quiet_step (fail) | quiet_step (fail))
          refine wpQuiet_nil ?_
          refine grow_read rfl rfl ?_
          (first | go_big_quiet_step (fail) | quiet_step (fail))
          refine wpQuiet_nil ?_
          refine grow_read rfl rfl ?_
          (first | go_big_quiet_step (fail) | quiet_step (fail))
          refine wpQuiet_nil ?_
          refine grow_read rfl rfl ?_
          (first | go_big_quiet_step (fail) | quiet_step (fail))
          refine wpQuiet_nil ?_
          refine grow_read rfl rfl ?_
          (first | go_big_quiet_step (fail) | quiet_step (fail))
          refine wpQuiet_nil ?_
          refine grow_read rfl rfl ?_
          (first | go_big_quiet_step (fail) | quiet_step (fail))
          refine wpQuiet_nil ?_
          refine grow_read rfl rfl ?_
          (first | go_big_quiet_step (fail) | quiet_step (fail))
          refine wpQuiet_nil ?_
          refine grow_read rfl rfl ?_
          (first | go_big_quiet_step (fail) | quiet_step (fail))
          refine wpQuiet_nil ?_
          refine grow_read rfl rfl ?_
          (first | go_big_quiet_step (fail) | quiet_step (fail))
          refine wpQuiet_nil ?_
          refine grow_read rfl rfl ?_
          (first | go_big_quiet_step (fail) | quiet_step (fail))
          refine wpQuiet_nil ?_
          refine grow_read rfl rfl ?_
          (first | go_big_quiet_step (fail) | quiet_step (fail))
          refine wpQuiet_nil ?_
          refine grow_read rfl rfl ?_
          (first | go_big_quiet_step (fail) | quiet_step (fail))
          refine wpQuiet_nil ?_
          refine grow_read rfl rfl ?_
          (first | go_big_quiet_step (fail) | quiet_step (fail))
          refine wpQuiet_nil ?_
          clear k_a0 k_a1 k_a2 k_a3 k_c0 k_c1 k_c2 k_c3 k_l0 k_l1 k_l2 k_l3
          refine grow_call rfl rfl ?_
          go_wp2_with (go_at_call 25; refine (example_b _).mono ?_; rintro _ _ ⟨rfl, B⟩; replace BB := bon BB B; replace a0 := cell_below B a0; replace a1 := cell_below B a1; replace a2 := cell_below B a2; replace a3 := cell_below B a3; replace c0 := cell_below B c0; replace c1 := cell_below B c1; replace c2 := cell_below B c2; replace c3 := cell_below B c3; replace l0 := cell_below B l0; replace l1 := cell_below B l1; replace l2 := cell_below B l2; replace l3 := cell_below B l3)
          refine ⟨Grows.of B, ?_⟩
          clear B
          have k_a0 := cell_regrown a0
          have k_a1 := cell_regrown a1
          have k_a2 := cell_regrown a2
          have k_a3 := cell_regrown a3
          have k_c0 := cell_regrown c0
          have k_c1 := cell_regrown c1
          have k_c2 := cell_regrown c2
          have k_c3 := cell_regrown c3
          have k_l0 := cell_regrown l0
          have k_l1 := cell_regrown l1
          have k_l2 := cell_regrown l2
          have k_l3 := cell_regrown l3
          refine grow_read rfl rfl ?_
          (first | go_big_quiet_step (fail) | quiet_step (fail))
          refine wpQuiet_nil ?_
          refine grow_read rfl rfl ?_
          (first | go_big_quiet_step (fail) | quiet_step (fail))
          refine wpQuiet_nil ?_
          clear k_a0 k_a1 k_a2 k_a3 k_c0 k_c1 k_c2 k_c3 k_l0 k_l1 k_l2 k_l3
          refine grow_nil ?_
          go_wp2_with fail
          go_ret
          exact ⟨rfl, BB⟩

end Go.Proofs.Ytaonchonpikfmaa
