/- The walk of the law MatrixAffine. -/
import Derived.Test.YtlchecnencbamaaM7
import Derived.Test.YtlchecnencbamaaTree
namespace Go.Proofs.Ytlchecnencbamaa
open Go.RowKit Go.Sort

theorem aff_one (x k : Int) (h : k = sat x) (y : Int) : sat (rda (65536 * sat y + sat k * 65536) 65536) = addv y x := by
  subst h
  have b1 := sat_bd x
  have b2 := sat_bd y
  rw [sat_sat, show 65536 * sat y + sat x * 65536 = (sat y + sat x) * 65536 by omega, rda_in _ _ (by omega) (by omega) (by omega) (by omega), rdv_mul_any _ _ (by omega)]
  rfl
theorem trm_p0 (x y z x0 x1 x2 : Int) : appv (trm x y z) 0 x0 x1 x2 65536 = addv x0 x := by
  show dotv 65536 0 0 (sat x) x0 x1 x2 65536 = _
  unfold dotv; rw [sat_one, sat_zero, show 65536 * sat x0 + 0 * sat x1 + 0 * sat x2 + sat (sat x) * 65536 = 65536 * sat x0 + sat (sat x) * 65536 by omega, aff_one x _ rfl]
theorem trm_p1 (x y z x0 x1 x2 : Int) : appv (trm x y z) 1 x0 x1 x2 65536 = addv x1 y := by
  show dotv 0 65536 0 (sat y) x0 x1 x2 65536 = _
  unfold dotv; rw [sat_one, sat_zero, show 0 * sat x0 + 65536 * sat x1 + 0 * sat x2 + sat (sat y) * 65536 = 65536 * sat x1 + sat (sat y) * 65536 by omega, aff_one y _ rfl]
theorem trm_p2 (x y z x0 x1 x2 : Int) : appv (trm x y z) 2 x0 x1 x2 65536 = addv x2 z := by
  show dotv 0 0 65536 (sat z) x0 x1 x2 65536 = _
  unfold dotv; rw [sat_one, sat_zero, show 0 * sat x0 + 0 * sat x1 + 65536 * sat x2 + sat (sat z) * 65536 = 65536 * sat x2 + sat (sat z) * 65536 by omega, aff_one z _ rfl]
theorem trm_p3 (x y z x0 x1 x2 : Int) : appv (trm x y z) 3 x0 x1 x2 65536 = 65536 := dotv_e3 x0 x1 x2 65536
theorem trm_d0 (x y z x0 x1 x2 : Int) : appv (trm x y z) 0 x0 x1 x2 0 = sat x0 := by
  show dotv 65536 0 0 (sat x) x0 x1 x2 0 = _
  unfold dotv; rw [sat_one, sat_zero, show 65536 * sat x0 + 0 * sat x1 + 0 * sat x2 + sat (sat x) * 0 = sat x0 * 65536 by omega, one_sat]
theorem trm_d1 (x y z x0 x1 x2 : Int) : appv (trm x y z) 1 x0 x1 x2 0 = sat x1 := by
  show dotv 0 65536 0 (sat y) x0 x1 x2 0 = _
  unfold dotv; rw [sat_one, sat_zero, show 0 * sat x0 + 65536 * sat x1 + 0 * sat x2 + sat (sat y) * 0 = sat x1 * 65536 by omega, one_sat]
theorem trm_d2 (x y z x0 x1 x2 : Int) : appv (trm x y z) 2 x0 x1 x2 0 = sat x2 := by
  show dotv 0 0 65536 (sat z) x0 x1 x2 0 = _
  unfold dotv; rw [sat_one, sat_zero, show 0 * sat x0 + 0 * sat x1 + 65536 * sat x2 + sat (sat z) * 0 = sat x2 * 65536 by omega, one_sat]
theorem trm_d3 (x y z x0 x1 x2 : Int) : appv (trm x y z) 3 x0 x1 x2 0 = 0 := dotv_e3 x0 x1 x2 0
theorem mulv_dot (k x : Int) : sat (rda (sat (sat k) * sat x) 65536) = mulv x k := by unfold mulv; rw [sat_sat, Int.mul_comm]
theorem scm_0 (x y z x0 x1 x2 x3 : Int) : appv (scm x y z) 0 x0 x1 x2 x3 = mulv x0 x := by
  show dotv (sat x) 0 0 0 x0 x1 x2 x3 = _
  unfold dotv; rw [sat_zero, show sat (sat x) * sat x0 + 0 * sat x1 + 0 * sat x2 + 0 * sat x3 = sat (sat x) * sat x0 by omega, mulv_dot]
theorem scm_1 (x y z x0 x1 x2 x3 : Int) : appv (scm x y z) 1 x0 x1 x2 x3 = mulv x1 y := by
  show dotv 0 (sat y) 0 0 x0 x1 x2 x3 = _
  unfold dotv; rw [sat_zero, show 0 * sat x0 + sat (sat y) * sat x1 + 0 * sat x2 + 0 * sat x3 = sat (sat y) * sat x1 by omega, mulv_dot]
theorem scm_2 (x y z x0 x1 x2 x3 : Int) : appv (scm x y z) 2 x0 x1 x2 x3 = mulv x2 z := by
  show dotv 0 0 (sat z) 0 x0 x1 x2 x3 = _
  unfold dotv; rw [sat_zero, show 0 * sat x0 + 0 * sat x1 + sat (sat z) * sat x2 + 0 * sat x3 = sat (sat z) * sat x2 by omega, mulv_dot]
theorem scm_3 (x y z x0 x1 x2 x3 : Int) : appv (scm x y z) 3 x0 x1 x2 x3 = sat x3 := dotv_e3 x0 x1 x2 x3

theorem argsAf (w : World) (x0 x1 x2 x3 : Int) (k0 k1 k2 : Int) (t u : TypeId) :
    Below w.heap.size w ((w.alloc (.cells #[.int .i64 x0, .int .i64 x1, .int .i64 x2, .int .i64 x3] t)).alloc (.cells #[.int .i64 k0, .int .i64 k1, .int .i64 k2] u)) ∧
    ((w.alloc (.cells #[.int .i64 x0, .int .i64 x1, .int .i64 x2, .int .i64 x3] t)).alloc (.cells #[.int .i64 k0, .int .i64 k1, .int .i64 k2] u)).cell? ⟨w.heap.size, 0, none⟩ = some (.int .i64 x0) ∧
    ((w.alloc (.cells #[.int .i64 x0, .int .i64 x1, .int .i64 x2, .int .i64 x3] t)).alloc (.cells #[.int .i64 k0, .int .i64 k1, .int .i64 k2] u)).cell? ⟨w.heap.size, 1, none⟩ = some (.int .i64 x1) ∧
    ((w.alloc (.cells #[.int .i64 x0, .int .i64 x1, .int .i64 x2, .int .i64 x3] t)).alloc (.cells #[.int .i64 k0, .int .i64 k1, .int .i64 k2] u)).cell? ⟨w.heap.size, 2, none⟩ = some (.int .i64 x2) ∧
    ((w.alloc (.cells #[.int .i64 x0, .int .i64 x1, .int .i64 x2, .int .i64 x3] t)).alloc (.cells #[.int .i64 k0, .int .i64 k1, .int .i64 k2] u)).cell? ⟨w.heap.size, 3, none⟩ = some (.int .i64 x3) ∧
    ((w.alloc (.cells #[.int .i64 x0, .int .i64 x1, .int .i64 x2, .int .i64 x3] t)).alloc (.cells #[.int .i64 k0, .int .i64 k1, .int .i64 k2] u)).cell? ⟨w.heap.size + 1, 0, none⟩ = some (.int .i64 k0) ∧
    ((w.alloc (.cells #[.int .i64 x0, .int .i64 x1, .int .i64 x2, .int .i64 x3] t)).alloc (.cells #[.int .i64 k0, .int .i64 k1, .int .i64 k2] u)).cell? ⟨w.heap.size + 1, 1, none⟩ = some (.int .i64 k1) ∧
    ((w.alloc (.cells #[.int .i64 x0, .int .i64 x1, .int .i64 x2, .int .i64 x3] t)).alloc (.cells #[.int .i64 k0, .int .i64 k1, .int .i64 k2] u)).cell? ⟨w.heap.size + 1, 2, none⟩ = some (.int .i64 k2) := by
  have BB : Below w.heap.size w w := Below.refl _ _
  have hsz0 : w.heap.size = w.heap.size := by simp
  obtain ⟨B, BB⟩ := box_on BB #[.int .i64 x0, .int .i64 x1, .int .i64 x2, .int .i64 x3] t
  have p0_0 := box_cell w #[.int .i64 x0, .int .i64 x1, .int .i64 x2, .int .i64 x3] t 0 _ rfl
  have p0_1 := box_cell w #[.int .i64 x0, .int .i64 x1, .int .i64 x2, .int .i64 x3] t 1 _ rfl
  have p0_2 := box_cell w #[.int .i64 x0, .int .i64 x1, .int .i64 x2, .int .i64 x3] t 2 _ rfl
  have p0_3 := box_cell w #[.int .i64 x0, .int .i64 x1, .int .i64 x2, .int .i64 x3] t 3 _ rfl
  have f0_0 := box_frozen w #[.int .i64 x0, .int .i64 x1, .int .i64 x2, .int .i64 x3] t 0
  have f0_1 := box_frozen w #[.int .i64 x0, .int .i64 x1, .int .i64 x2, .int .i64 x3] t 1
  have f0_2 := box_frozen w #[.int .i64 x0, .int .i64 x1, .int .i64 x2, .int .i64 x3] t 2
  have f0_3 := box_frozen w #[.int .i64 x0, .int .i64 x1, .int .i64 x2, .int .i64 x3] t 3
  rw [hsz0] at p0_0 p0_1 p0_2 p0_3 f0_0 f0_1 f0_2 f0_3
  have hsz1 : (w.alloc (.cells #[.int .i64 x0, .int .i64 x1, .int .i64 x2, .int .i64 x3] t)).heap.size = w.heap.size + 1 := by simp
  obtain ⟨B, BB⟩ := box_on BB #[.int .i64 k0, .int .i64 k1, .int .i64 k2] u
  replace f0_0 := frozen_below B p0_0 f0_0
  replace f0_1 := frozen_below B p0_1 f0_1
  replace f0_2 := frozen_below B p0_2 f0_2
  replace f0_3 := frozen_below B p0_3 f0_3
  replace p0_0 := cell_below B p0_0
  replace p0_1 := cell_below B p0_1
  replace p0_2 := cell_below B p0_2
  replace p0_3 := cell_below B p0_3
  have p1_0 := box_cell (w.alloc (.cells #[.int .i64 x0, .int .i64 x1, .int .i64 x2, .int .i64 x3] t)) #[.int .i64 k0, .int .i64 k1, .int .i64 k2] u 0 _ rfl
  have p1_1 := box_cell (w.alloc (.cells #[.int .i64 x0, .int .i64 x1, .int .i64 x2, .int .i64 x3] t)) #[.int .i64 k0, .int .i64 k1, .int .i64 k2] u 1 _ rfl
  have p1_2 := box_cell (w.alloc (.cells #[.int .i64 x0, .int .i64 x1, .int .i64 x2, .int .i64 x3] t)) #[.int .i64 k0, .int .i64 k1, .int .i64 k2] u 2 _ rfl
  have f1_0 := box_frozen (w.alloc (.cells #[.int .i64 x0, .int .i64 x1, .int .i64 x2, .int .i64 x3] t)) #[.int .i64 k0, .int .i64 k1, .int .i64 k2] u 0
  have f1_1 := box_frozen (w.alloc (.cells #[.int .i64 x0, .int .i64 x1, .int .i64 x2, .int .i64 x3] t)) #[.int .i64 k0, .int .i64 k1, .int .i64 k2] u 1
  have f1_2 := box_frozen (w.alloc (.cells #[.int .i64 x0, .int .i64 x1, .int .i64 x2, .int .i64 x3] t)) #[.int .i64 k0, .int .i64 k1, .int .i64 k2] u 2
  rw [hsz1] at p1_0 p1_1 p1_2 f1_0 f1_1 f1_2
  exact ⟨BB, p0_0, p0_1, p0_2, p0_3, p1_0, p1_1, p1_2⟩

set_option maxRecDepth 100000 in
set_option maxHeartbeats 16000000 in
theorem affine_walk (x0 x1 x2 x3 x y z : Int) (w : World) :
    Calls Try.prog 8 #[.agg #[.int .i64 x0, .int .i64 x1, .int .i64 x2, .int .i64 x3], .agg #[.int .i64 x, .int .i64 y, .int .i64 z]] w fun e w' => e = .returned (.bool true) ∧ Below w.heap.size w w' := by
  obtain ⟨BB, a0, a1, a2, a3, b0, b1, b2⟩ := argsAf w x0 x1 x2 x3 x y z 25 46
  go_enter Try.func8, Try.ntmps8
  go_wp2_with fail
  refine letter (S := fun U => Below w.heap.size w U ∧ U.cell? ⟨w.heap.size, 0, none⟩ = some (.int .i64 x0) ∧ U.cell? ⟨w.heap.size, 1, none⟩ = some (.int .i64 x1) ∧ U.cell? ⟨w.heap.size, 2, none⟩ = some (.int .i64 x2) ∧ U.cell? ⟨w.heap.size, 3, none⟩ = some (.int .i64 x3) ∧ U.cell? ⟨w.heap.size + 1, 0, none⟩ = some (.int .i64 x) ∧ U.cell? ⟨w.heap.size + 1, 1, none⟩ = some (.int .i64 y) ∧ U.cell? ⟨w.heap.size + 1, 2, none⟩ = some (.int .i64 z)) ?_ ⟨BB, a0, a1, a2, a3, b0, b1, b2⟩
  clear BB a0 a1 a2 a3 b0 b1 b2
  rintro W ⟨BW, a0, a1, a2, a3, b0, b1, b2⟩
  refine wp_region_tree (.read 0 (.read 2 (.read 3 (.read 4 (.read 5 (.read 6 (.read 7 (.fork2 1 (.fork1 8 (.fork1 9 (.fork1 10 (.fork1 11 (.fork1 12 (.nil)))))) 8 (.fork1 1 (.fork1 9 (.fork1 10 (.fork1 11 (.fork1 12 (.nil)))))))))))))) (by kernel_rfl) (by kernel_rfl) ?_
  intro V1 BC
  have HW : w.heap.size < W.heap.size := block_lt_of_cell a0
  have HB : w.heap.size + 1 < W.heap.size := block_lt_of_cell b0
  have k_a0 := cell_regrown a0
  have k_a1 := cell_regrown a1
  have k_a2 := cell_regrown a2
  have k_a3 := cell_regrown a3
  have k_b0 := cell_regrown b0
  have k_b1 := cell_regrown b1
  have k_b2 := cell_regrown b2
  repeat (refine tree_read rfl ?_; quiet_step (fail); refine wpQuiet_nil ?_)
  clear k_a0 k_a1 k_a2 k_a3 k_b0 k_b1 k_b2
  replace a0 := cell_below BC a0
  replace a1 := cell_below BC a1
  replace a2 := cell_below BC a2
  replace a3 := cell_below BC a3
  replace b0 := cell_below BC b0
  replace b1 := cell_below BC b1
  replace b2 := cell_below BC b2
  refine tree_two rfl rfl ?_ ?_
  · skip
    go_wp2_with (go_at_call 30; refine (limitedvec_b _ _ _ _ _).mono ?_; rintro _ V2 ⟨rfl, B⟩; replace BC := bon BC B; replace a0 := cell_below B a0; replace a1 := cell_below B a1; replace a2 := cell_below B a2; replace a3 := cell_below B a3; replace b0 := cell_below B b0; replace b1 := cell_below B b1; replace b2 := cell_below B b2; clear B)
    refine ⟨Ahead.of BC, ?_⟩
    refine tree_one rfl ?_
    go_wp2_with fail
    have B := box_below V2 #[.int .i64 0, .int .i64 0, .int .i64 0, .int .i64 0] 25
    have s0 := box_cell V2 #[.int .i64 0, .int .i64 0, .int .i64 0, .int .i64 0] 25 0 _ rfl
    have s1 := box_cell V2 #[.int .i64 0, .int .i64 0, .int .i64 0, .int .i64 0] 25 1 _ rfl
    have s2 := box_cell V2 #[.int .i64 0, .int .i64 0, .int .i64 0, .int .i64 0] 25 2 _ rfl
    have s3 := box_cell V2 #[.int .i64 0, .int .i64 0, .int .i64 0, .int .i64 0] 25 3 _ rfl
    have Fs := fun i => box_frozen V2 #[.int .i64 0, .int .i64 0, .int .i64 0, .int .i64 0] 25 i
    have Ls : W.heap.size ≤ V2.heap.size := BC.size
    refine ⟨Ahead.of (bon BC B), ?_⟩
    refine tree_letter (S := fun U => Below W.heap.size W U ∧ U.cell? ⟨w.heap.size, 0, none⟩ = some (.int .i64 x0) ∧ U.cell? ⟨w.heap.size, 1, none⟩ = some (.int .i64 x1) ∧ U.cell? ⟨w.heap.size, 2, none⟩ = some (.int .i64 x2) ∧ U.cell? ⟨w.heap.size, 3, none⟩ = some (.int .i64 x3) ∧ U.cell? ⟨w.heap.size + 1, 0, none⟩ = some (.int .i64 x) ∧ U.cell? ⟨w.heap.size + 1, 1, none⟩ = some (.int .i64 y) ∧ U.cell? ⟨w.heap.size + 1, 2, none⟩ = some (.int .i64 z) ∧ U.cell? ⟨V2.heap.size, 0, none⟩ = some (.int .i64 0) ∧ U.cell? ⟨V2.heap.size, 1, none⟩ = some (.int .i64 0) ∧ U.cell? ⟨V2.heap.size, 2, none⟩ = some (.int .i64 0) ∧ U.cell? ⟨V2.heap.size, 3, none⟩ = some (.int .i64 0) ∧ (∀ i, U.frozen? ⟨V2.heap.size, i, none⟩ = false)) ?_ ⟨bon BC B, cell_below B a0, cell_below B a1, cell_below B a2, cell_below B a3, cell_below B b0, cell_below B b1, cell_below B b2, s0, s1, s2, s3, Fs⟩
    clear BC B a0 a1 a2 a3 b0 b1 b2 s0 s1 s2 s3 Fs
    generalize V2.heap.size = sl at *
    rintro V3 ⟨BC, a0, a1, a2, a3, b0, b1, b2, s0, s1, s2, s3, Fs⟩
    refine tree_one rfl ?_
    go_wp2_with (refine wpList_vstore (W := V3) rfl _ _ _ rfl (sat x0) (sat x1) (sat x2) (sat x3) rfl rfl s0 s1 s2 s3 Fs BC Ls (by kernel_rfl) ?_; intro V4 BC1 e0 e1 e2 e3 hc hf; replace BC := BC1; clear BC1 s0 s1 s2 s3; have s0 := e0; have s1 := e1; have s2 := e2; have s3 := e3; clear e0 e1 e2 e3; replace Fs := fun i => (hf ⟨_, i, none⟩).trans (Fs i); replace a0 := (hc ⟨w.heap.size, 0, none⟩ (by show w.heap.size ≠ sl; omega)).trans a0; replace a1 := (hc ⟨w.heap.size, 1, none⟩ (by show w.heap.size ≠ sl; omega)).trans a1; replace a2 := (hc ⟨w.heap.size, 2, none⟩ (by show w.heap.size ≠ sl; omega)).trans a2; replace a3 := (hc ⟨w.heap.size, 3, none⟩ (by show w.heap.size ≠ sl; omega)).trans a3; replace b0 := (hc ⟨w.heap.size + 1, 0, none⟩ (by show w.heap.size + 1 ≠ sl; omega)).trans b0; replace b1 := (hc ⟨w.heap.size + 1, 1, none⟩ (by show w.heap.size + 1 ≠ sl; omega)).trans b1; replace b2 := (hc ⟨w.heap.size + 1, 2, none⟩ (by show w.heap.size + 1 ≠ sl; omega)).trans b2; clear hc hf; go_simp)
    refine ⟨Ahead.of BC, ?_⟩
    refine tree_one rfl ?_
    go_wp2_with fail
    refine ⟨Ahead.of BC, ?_⟩
    refine tree_one rfl ?_
    go_wp2_with fail
    refine ⟨Ahead.of BC, ?_⟩
    refine tree_one rfl ?_
    go_wp2_with fail
    refine ⟨Ahead.of BC, ?_⟩
    refine tree_nil ?_
    have BB := bon BW BC
    clear BC BW HW HB Fs Ls b0 b1 b2
    go_wp2_with fail
    refine letter (S := fun U => Below w.heap.size w U ∧ U.cell? ⟨w.heap.size, 0, none⟩ = some (.int .i64 x0) ∧ U.cell? ⟨w.heap.size, 1, none⟩ = some (.int .i64 x1) ∧ U.cell? ⟨w.heap.size, 2, none⟩ = some (.int .i64 x2) ∧ U.cell? ⟨w.heap.size, 3, none⟩ = some (.int .i64 x3) ∧ U.cell? ⟨sl, 0, none⟩ = some (.int .i64 (sat x0)) ∧ U.cell? ⟨sl, 1, none⟩ = some (.int .i64 (sat x1)) ∧ U.cell? ⟨sl, 2, none⟩ = some (.int .i64 (sat x2)) ∧ U.cell? ⟨sl, 3, none⟩ = some (.int .i64 (sat x3))) ?_ ⟨BB, a0, a1, a2, a3, s0, s1, s2, s3⟩
    clear BB a0 a1 a2 a3 s0 s1 s2 s3
    rintro W ⟨BW, a0, a1, a2, a3, s0, s1, s2, s3⟩
    refine wp_region_tree (.read 0 (.read 1 (.read 2 (.read 3 (.read 4 (.read 5 (.read 6 (.read 7 (.read 8 (.read 9 (.read 10 (.read 11 (.read 12 (.read 13 (.fork2 14 (.fork1 15 (.fork1 16 (.fork1 17 (.nil)))) 15 (.fork1 14 (.fork1 16 (.fork1 17 (.nil))))))))))))))))))) (by kernel_rfl) (by kernel_rfl) ?_
    intro V8 BC
    have HW : w.heap.size < W.heap.size := block_lt_of_cell a0
    have HS : sl < W.heap.size := block_lt_of_cell s0
    have k_a0 := cell_regrown a0
    have k_a1 := cell_regrown a1
    have k_a2 := cell_regrown a2
    have k_a3 := cell_regrown a3
    have k_s0 := cell_regrown s0
    have k_s1 := cell_regrown s1
    have k_s2 := cell_regrown s2
    have k_s3 := cell_regrown s3
    repeat (refine tree_read rfl ?_; quiet_step (fail); refine wpQuiet_nil ?_)
    clear k_a0 k_a1 k_a2 k_a3 k_s0 k_s1 k_s2 k_s3
    replace a0 := cell_below BC a0
    replace a1 := cell_below BC a1
    replace a2 := cell_below BC a2
    replace a3 := cell_below BC a3
    replace s0 := cell_below BC s0
    replace s1 := cell_below BC s1
    replace s2 := cell_below BC s2
    replace s3 := cell_below BC s3
    refine tree_two rfl rfl ?_ ?_
    · skip
      go_wp2_with fail
      have B := box_below V8 #[.int .i64 0, .int .i64 0, .int .i64 0, .int .i64 0] 25
      have p0 := box_cell V8 #[.int .i64 0, .int .i64 0, .int .i64 0, .int .i64 0] 25 0 _ rfl
      have p1 := box_cell V8 #[.int .i64 0, .int .i64 0, .int .i64 0, .int .i64 0] 25 1 _ rfl
      have p2 := box_cell V8 #[.int .i64 0, .int .i64 0, .int .i64 0, .int .i64 0] 25 2 _ rfl
      have p3 := box_cell V8 #[.int .i64 0, .int .i64 0, .int .i64 0, .int .i64 0] 25 3 _ rfl
      have Fp := fun i => box_frozen V8 #[.int .i64 0, .int .i64 0, .int .i64 0, .int .i64 0] 25 i
      have Lp : W.heap.size ≤ V8.heap.size := BC.size
      refine ⟨Ahead.of (bon BC B), ?_⟩
      refine tree_letter (S := fun U => Below W.heap.size W U ∧ U.cell? ⟨w.heap.size, 0, none⟩ = some (.int .i64 x0) ∧ U.cell? ⟨w.heap.size, 1, none⟩ = some (.int .i64 x1) ∧ U.cell? ⟨w.heap.size, 2, none⟩ = some (.int .i64 x2) ∧ U.cell? ⟨w.heap.size, 3, none⟩ = some (.int .i64 x3) ∧ U.cell? ⟨sl, 0, none⟩ = some (.int .i64 (sat x0)) ∧ U.cell? ⟨sl, 1, none⟩ = some (.int .i64 (sat x1)) ∧ U.cell? ⟨sl, 2, none⟩ = some (.int .i64 (sat x2)) ∧ U.cell? ⟨sl, 3, none⟩ = some (.int .i64 (sat x3)) ∧ U.cell? ⟨V8.heap.size, 0, none⟩ = some (.int .i64 0) ∧ U.cell? ⟨V8.heap.size, 1, none⟩ = some (.int .i64 0) ∧ U.cell? ⟨V8.heap.size, 2, none⟩ = some (.int .i64 0) ∧ U.cell? ⟨V8.heap.size, 3, none⟩ = some (.int .i64 0) ∧ (∀ i, U.frozen? ⟨V8.heap.size, i, none⟩ = false)) ?_ ⟨bon BC B, cell_below B a0, cell_below B a1, cell_below B a2, cell_below B a3, cell_below B s0, cell_below B s1, cell_below B s2, cell_below B s3, p0, p1, p2, p3, Fp⟩
      clear BC B a0 a1 a2 a3 s0 s1 s2 s3 p0 p1 p2 p3 Fp
      generalize V8.heap.size = sp at *
      rintro V9 ⟨BC, a0, a1, a2, a3, s0, s1, s2, s3, p0, p1, p2, p3, Fp⟩
      refine tree_one rfl ?_
      go_wp2_with fail
      have B := box_below V9 #[.int .i64 0, .int .i64 0, .int .i64 0, .int .i64 0] 25
      have d0 := box_cell V9 #[.int .i64 0, .int .i64 0, .int .i64 0, .int .i64 0] 25 0 _ rfl
      have d1 := box_cell V9 #[.int .i64 0, .int .i64 0, .int .i64 0, .int .i64 0] 25 1 _ rfl
      have d2 := box_cell V9 #[.int .i64 0, .int .i64 0, .int .i64 0, .int .i64 0] 25 2 _ rfl
      have d3 := box_cell V9 #[.int .i64 0, .int .i64 0, .int .i64 0, .int .i64 0] 25 3 _ rfl
      have Fd := fun i => box_frozen V9 #[.int .i64 0, .int .i64 0, .int .i64 0, .int .i64 0] 25 i
      have Ld : W.heap.size ≤ V9.heap.size := BC.size
      have Dpd : sp ≠ V9.heap.size := Nat.ne_of_lt (block_lt_of_cell p0)
      refine ⟨Ahead.of (bon BC B), ?_⟩
      refine tree_letter (S := fun U => Below W.heap.size W U ∧ U.cell? ⟨w.heap.size, 0, none⟩ = some (.int .i64 x0) ∧ U.cell? ⟨w.heap.size, 1, none⟩ = some (.int .i64 x1) ∧ U.cell? ⟨w.heap.size, 2, none⟩ = some (.int .i64 x2) ∧ U.cell? ⟨w.heap.size, 3, none⟩ = some (.int .i64 x3) ∧ U.cell? ⟨sl, 0, none⟩ = some (.int .i64 (sat x0)) ∧ U.cell? ⟨sl, 1, none⟩ = some (.int .i64 (sat x1)) ∧ U.cell? ⟨sl, 2, none⟩ = some (.int .i64 (sat x2)) ∧ U.cell? ⟨sl, 3, none⟩ = some (.int .i64 (sat x3)) ∧ U.cell? ⟨sp, 0, none⟩ = some (.int .i64 0) ∧ U.cell? ⟨sp, 1, none⟩ = some (.int .i64 0) ∧ U.cell? ⟨sp, 2, none⟩ = some (.int .i64 0) ∧ U.cell? ⟨sp, 3, none⟩ = some (.int .i64 0) ∧ (∀ i, U.frozen? ⟨sp, i, none⟩ = false) ∧ U.cell? ⟨V9.heap.size, 0, none⟩ = some (.int .i64 0) ∧ U.cell? ⟨V9.heap.size, 1, none⟩ = some (.int .i64 0) ∧ U.cell? ⟨V9.heap.size, 2, none⟩ = some (.int .i64 0) ∧ U.cell? ⟨V9.heap.size, 3, none⟩ = some (.int .i64 0) ∧ (∀ i, U.frozen? ⟨V9.heap.size, i, none⟩ = false)) ?_ ⟨bon BC B, cell_below B a0, cell_below B a1, cell_below B a2, cell_below B a3, cell_below B s0, cell_below B s1, cell_below B s2, cell_below B s3, cell_below B p0, cell_below B p1, cell_below B p2, cell_below B p3, fun i => (B.frozen (p := ⟨sp, i, none⟩) (show sp < _ from block_lt_of_cell p0)).trans (Fp i), d0, d1, d2, d3, Fd⟩
      clear BC B a0 a1 a2 a3 s0 s1 s2 s3 p0 p1 p2 p3 Fp d0 d1 d2 d3 Fd
      generalize V9.heap.size = sd at *
      rintro V10 ⟨BC, a0, a1, a2, a3, s0, s1, s2, s3, p0, p1, p2, p3, Fp, d0, d1, d2, d3, Fd⟩
      refine tree_one rfl ?_
      go_wp2_with (refine wpList_vstore (W := V10) rfl _ _ _ rfl x0 x1 x2 65536 rfl rfl p0 p1 p2 p3 Fp BC Lp (by kernel_rfl) ?_; intro V11 BC1 e0 e1 e2 e3 hc hf; replace BC := BC1; clear BC1 p0 p1 p2 p3; have p0 := e0; have p1 := e1; have p2 := e2; have p3 := e3; clear e0 e1 e2 e3; replace Fp := fun i => (hf ⟨_, i, none⟩).trans (Fp i); replace Fd := fun i => (hf ⟨_, i, none⟩).trans (Fd i); replace a0 := (hc ⟨w.heap.size, 0, none⟩ (by show w.heap.size ≠ sp; omega)).trans a0; replace a1 := (hc ⟨w.heap.size, 1, none⟩ (by show w.heap.size ≠ sp; omega)).trans a1; replace a2 := (hc ⟨w.heap.size, 2, none⟩ (by show w.heap.size ≠ sp; omega)).trans a2; replace a3 := (hc ⟨w.heap.size, 3, none⟩ (by show w.heap.size ≠ sp; omega)).trans a3; replace s0 := (hc ⟨sl, 0, none⟩ (by show sl ≠ sp; omega)).trans s0; replace s1 := (hc ⟨sl, 1, none⟩ (by show sl ≠ sp; omega)).trans s1; replace s2 := (hc ⟨sl, 2, none⟩ (by show sl ≠ sp; omega)).trans s2; replace s3 := (hc ⟨sl, 3, none⟩ (by show sl ≠ sp; omega)).trans s3; replace d0 := (hc ⟨sd, 0, none⟩ (by show sd ≠ sp; omega)).trans d0; replace d1 := (hc ⟨sd, 1, none⟩ (by show sd ≠ sp; omega)).trans d1; replace d2 := (hc ⟨sd, 2, none⟩ (by show sd ≠ sp; omega)).trans d2; replace d3 := (hc ⟨sd, 3, none⟩ (by show sd ≠ sp; omega)).trans d3; clear hc hf; go_simp)
      refine ⟨Ahead.of BC, ?_⟩
      refine tree_one rfl ?_
      go_wp2_with (refine wpList_vstore (W := V11) rfl _ _ _ rfl x0 x1 x2 0 rfl rfl d0 d1 d2 d3 Fd BC Ld (by kernel_rfl) ?_; intro V12 BC1 e0 e1 e2 e3 hc hf; replace BC := BC1; clear BC1 d0 d1 d2 d3; have d0 := e0; have d1 := e1; have d2 := e2; have d3 := e3; clear e0 e1 e2 e3; replace Fp := fun i => (hf ⟨_, i, none⟩).trans (Fp i); replace Fd := fun i => (hf ⟨_, i, none⟩).trans (Fd i); replace a0 := (hc ⟨w.heap.size, 0, none⟩ (by show w.heap.size ≠ sd; omega)).trans a0; replace a1 := (hc ⟨w.heap.size, 1, none⟩ (by show w.heap.size ≠ sd; omega)).trans a1; replace a2 := (hc ⟨w.heap.size, 2, none⟩ (by show w.heap.size ≠ sd; omega)).trans a2; replace a3 := (hc ⟨w.heap.size, 3, none⟩ (by show w.heap.size ≠ sd; omega)).trans a3; replace s0 := (hc ⟨sl, 0, none⟩ (by show sl ≠ sd; omega)).trans s0; replace s1 := (hc ⟨sl, 1, none⟩ (by show sl ≠ sd; omega)).trans s1; replace s2 := (hc ⟨sl, 2, none⟩ (by show sl ≠ sd; omega)).trans s2; replace s3 := (hc ⟨sl, 3, none⟩ (by show sl ≠ sd; omega)).trans s3; replace p0 := (hc ⟨sp, 0, none⟩ (by show sp ≠ sd; omega)).trans p0; replace p1 := (hc ⟨sp, 1, none⟩ (by show sp ≠ sd; omega)).trans p1; replace p2 := (hc ⟨sp, 2, none⟩ (by show sp ≠ sd; omega)).trans p2; replace p3 := (hc ⟨sp, 3, none⟩ (by show sp ≠ sd; omega)).trans p3; clear hc hf; go_simp)
      refine ⟨Ahead.of BC, ?_⟩
      refine tree_nil ?_
      have BB := bon BW BC
      clear BC BW HW HS Fp Fd Lp Ld
      go_wp2_with (first
        | (go_at_call 25; refine (translate_b _ _ _ _).mono ?_; rintro _ T1 ⟨rfl, B⟩; (replace BB := bon BB B; replace a0 := cell_below B a0; replace a1 := cell_below B a1; replace a2 := cell_below B a2; replace a3 := cell_below B a3; replace s0 := cell_below B s0; replace s1 := cell_below B s1; replace s2 := cell_below B s2; replace s3 := cell_below B s3; replace p0 := cell_below B p0; replace p1 := cell_below B p1; replace p2 := cell_below B p2; replace p3 := cell_below B p3; replace d0 := cell_below B d0; replace d1 := cell_below B d1; replace d2 := cell_below B d2; replace d3 := cell_below B d3); clear B)
        | (refine wpList_mfill (W := T1) rfl _ _ _ rfl (trm x y z) matT rfl rfl ?_; go_simp; have M5 := mat_box T1 (trm x y z) 23; have B := box_below T1 ((mats (trm x y z))) 23; (replace BB := bon BB B; replace a0 := cell_below B a0; replace a1 := cell_below B a1; replace a2 := cell_below B a2; replace a3 := cell_below B a3; replace s0 := cell_below B s0; replace s1 := cell_below B s1; replace s2 := cell_below B s2; replace s3 := cell_below B s3; replace p0 := cell_below B p0; replace p1 := cell_below B p1; replace p2 := cell_below B p2; replace p3 := cell_below B p3; replace d0 := cell_below B d0; replace d1 := cell_below B d1; replace d2 := cell_below B d2; replace d3 := cell_below B d3); clear B; generalize T1.heap.size = sm at *))
      have Ap0 := trm_p0 x y z x0 x1 x2
      have Ap1 := trm_p1 x y z x0 x1 x2
      have Ap2 := trm_p2 x y z x0 x1 x2
      have Ap3 := trm_p3 x y z x0 x1 x2
      have Ad0 := trm_d0 x y z x0 x1 x2
      have Ad1 := trm_d1 x y z x0 x1 x2
      have Ad2 := trm_d2 x y z x0 x1 x2
      have Ad3 := trm_d3 x y z x0 x1 x2
      have k_M5 := mat_regrown M5
      have k_a0 := cell_regrown a0
      have k_a1 := cell_regrown a1
      have k_a2 := cell_regrown a2
      have k_a3 := cell_regrown a3
      have k_s0 := cell_regrown s0
      have k_s1 := cell_regrown s1
      have k_s2 := cell_regrown s2
      have k_s3 := cell_regrown s3
      have k_p0 := cell_regrown p0
      have k_p1 := cell_regrown p1
      have k_p2 := cell_regrown p2
      have k_p3 := cell_regrown p3
      have k_d0 := cell_regrown d0
      have k_d1 := cell_regrown d1
      have k_d2 := cell_regrown d2
      have k_d3 := cell_regrown d3
      refine wp_region_quiet_below (by kernel_rfl) (by kernel_rfl) ?_
      repeat (first | (go_big_quiet_want; refine quiet_mload _ _ rfl matT (fun W hW => mat_class M5 hW) rfl ?_; go_simp; go_big_quiet_on) | go_big_quiet_step ((first | (go_at_call 12; exact Calls.regrown_of (apply_b _ _ _ _ _ _)) | (go_at_call 31; exact Calls.regrown_of (add_b _ _ _)))) | quiet_step ((first | (go_at_call 12; exact Calls.regrown_of (apply_b _ _ _ _ _ _)) | (go_at_call 31; exact Calls.regrown_of (add_b _ _ _)))))
      refine wpQuiet_nil ?_
      intro W hw'
      have B := below_regrown' hw'
      clear hw' k_M5 k_a0 k_a1 k_a2 k_a3 k_s0 k_s1 k_s2 k_s3 k_p0 k_p1 k_p2 k_p3 k_d0 k_d1 k_d2 k_d3
      replace BB := bon BB B
      replace M5 := mat_below B M5
      replace a0 := cell_below B a0
      replace a1 := cell_below B a1
      replace a2 := cell_below B a2
      replace a3 := cell_below B a3
      replace s0 := cell_below B s0
      replace s1 := cell_below B s1
      replace s2 := cell_below B s2
      replace s3 := cell_below B s3
      replace p0 := cell_below B p0
      replace p1 := cell_below B p1
      replace p2 := cell_below B p2
      replace p3 := cell_below B p3
      replace d0 := cell_below B d0
      replace d1 := cell_below B d1
      replace d2 := cell_below B d2
      replace d3 := cell_below B d3
      clear Ap0 Ap1 Ap2 Ap3 Ad0 Ad1 Ad2 Ad3 M5 p0 p1 p2 p3 d0 d1 d2 d3
      have A0 := scm_0 x y z x0 x1 x2 x3
      have A1 := scm_1 x y z x0 x1 x2 x3
      have A2 := scm_2 x y z x0 x1 x2 x3
      have A3 := scm_3 x y z x0 x1 x2 x3
      go_wp2_with fail
      have k_a0 := cell_regrown a0
      have k_a1 := cell_regrown a1
      have k_a2 := cell_regrown a2
      have k_a3 := cell_regrown a3
      have k_s0 := cell_regrown s0
      have k_s1 := cell_regrown s1
      have k_s2 := cell_regrown s2
      have k_s3 := cell_regrown s3
      refine wp_region_quiet_below (by kernel_rfl) (by kernel_rfl) ?_
      repeat (first | go_big_quiet_step ((first | (go_at_call 27; exact Calls.regrown_of (scale_b _ _ _ _)) | (go_at_call 12; exact Calls.regrown_of (apply_b _ _ _ _ _ _)) | (go_at_call 32; exact Calls.regrown_of (mul_b _ _ _)) | (go_at_call 18; exact Calls.regrown_of (example_b _)))) | quiet_step ((first | (go_at_call 27; exact Calls.regrown_of (scale_b _ _ _ _)) | (go_at_call 12; exact Calls.regrown_of (apply_b _ _ _ _ _ _)) | (go_at_call 32; exact Calls.regrown_of (mul_b _ _ _)) | (go_at_call 18; exact Calls.regrown_of (example_b _)))))
      refine wpQuiet_nil ?_
      intro W hw'
      have B := below_regrown' hw'
      clear hw' k_a0 k_a1 k_a2 k_a3 k_s0 k_s1 k_s2 k_s3
      replace BB := bon BB B
      replace a0 := cell_below B a0
      replace a1 := cell_below B a1
      replace a2 := cell_below B a2
      replace a3 := cell_below B a3
      replace s0 := cell_below B s0
      replace s1 := cell_below B s1
      replace s2 := cell_below B s2
      replace s3 := cell_below B s3
      go_wp2_with fail
      go_ret
      exact ⟨rfl, BB⟩
    · skip
      go_wp2_with fail
      have B := box_below V8 #[.int .i64 0, .int .i64 0, .int .i64 0, .int .i64 0] 25
      have d0 := box_cell V8 #[.int .i64 0, .int .i64 0, .int .i64 0, .int .i64 0] 25 0 _ rfl
      have d1 := box_cell V8 #[.int .i64 0, .int .i64 0, .int .i64 0, .int .i64 0] 25 1 _ rfl
      have d2 := box_cell V8 #[.int .i64 0, .int .i64 0, .int .i64 0, .int .i64 0] 25 2 _ rfl
      have d3 := box_cell V8 #[.int .i64 0, .int .i64 0, .int .i64 0, .int .i64 0] 25 3 _ rfl
      have Fd := fun i => box_frozen V8 #[.int .i64 0, .int .i64 0, .int .i64 0, .int .i64 0] 25 i
      have Ld : W.heap.size ≤ V8.heap.size := BC.size
      refine ⟨Ahead.of (bon BC B), ?_⟩
      refine tree_letter (S := fun U => Below W.heap.size W U ∧ U.cell? ⟨w.heap.size, 0, none⟩ = some (.int .i64 x0) ∧ U.cell? ⟨w.heap.size, 1, none⟩ = some (.int .i64 x1) ∧ U.cell? ⟨w.heap.size, 2, none⟩ = some (.int .i64 x2) ∧ U.cell? ⟨w.heap.size, 3, none⟩ = some (.int .i64 x3) ∧ U.cell? ⟨sl, 0, none⟩ = some (.int .i64 (sat x0)) ∧ U.cell? ⟨sl, 1, none⟩ = some (.int .i64 (sat x1)) ∧ U.cell? ⟨sl, 2, none⟩ = some (.int .i64 (sat x2)) ∧ U.cell? ⟨sl, 3, none⟩ = some (.int .i64 (sat x3)) ∧ U.cell? ⟨V8.heap.size, 0, none⟩ = some (.int .i64 0) ∧ U.cell? ⟨V8.heap.size, 1, none⟩ = some (.int .i64 0) ∧ U.cell? ⟨V8.heap.size, 2, none⟩ = some (.int .i64 0) ∧ U.cell? ⟨V8.heap.size, 3, none⟩ = some (.int .i64 0) ∧ (∀ i, U.frozen? ⟨V8.heap.size, i, none⟩ = false)) ?_ ⟨bon BC B, cell_below B a0, cell_below B a1, cell_below B a2, cell_below B a3, cell_below B s0, cell_below B s1, cell_below B s2, cell_below B s3, d0, d1, d2, d3, Fd⟩
      clear BC B a0 a1 a2 a3 s0 s1 s2 s3 d0 d1 d2 d3 Fd
      generalize V8.heap.size = sd at *
      rintro V13 ⟨BC, a0, a1, a2, a3, s0, s1, s2, s3, d0, d1, d2, d3, Fd⟩
      refine tree_one rfl ?_
      go_wp2_with fail
      have B := box_below V13 #[.int .i64 0, .int .i64 0, .int .i64 0, .int .i64 0] 25
      have p0 := box_cell V13 #[.int .i64 0, .int .i64 0, .int .i64 0, .int .i64 0] 25 0 _ rfl
      have p1 := box_cell V13 #[.int .i64 0, .int .i64 0, .int .i64 0, .int .i64 0] 25 1 _ rfl
      have p2 := box_cell V13 #[.int .i64 0, .int .i64 0, .int .i64 0, .int .i64 0] 25 2 _ rfl
      have p3 := box_cell V13 #[.int .i64 0, .int .i64 0, .int .i64 0, .int .i64 0] 25 3 _ rfl
      have Fp := fun i => box_frozen V13 #[.int .i64 0, .int .i64 0, .int .i64 0, .int .i64 0] 25 i
      have Lp : W.heap.size ≤ V13.heap.size := BC.size
      have Ddp : sd ≠ V13.heap.size := Nat.ne_of_lt (block_lt_of_cell d0)
      refine ⟨Ahead.of (bon BC B), ?_⟩
      refine tree_letter (S := fun U => Below W.heap.size W U ∧ U.cell? ⟨w.heap.size, 0, none⟩ = some (.int .i64 x0) ∧ U.cell? ⟨w.heap.size, 1, none⟩ = some (.int .i64 x1) ∧ U.cell? ⟨w.heap.size, 2, none⟩ = some (.int .i64 x2) ∧ U.cell? ⟨w.heap.size, 3, none⟩ = some (.int .i64 x3) ∧ U.cell? ⟨sl, 0, none⟩ = some (.int .i64 (sat x0)) ∧ U.cell? ⟨sl, 1, none⟩ = some (.int .i64 (sat x1)) ∧ U.cell? ⟨sl, 2, none⟩ = some (.int .i64 (sat x2)) ∧ U.cell? ⟨sl, 3, none⟩ = some (.int .i64 (sat x3)) ∧ U.cell? ⟨sd, 0, none⟩ = some (.int .i64 0) ∧ U.cell? ⟨sd, 1, none⟩ = some (.int .i64 0) ∧ U.cell? ⟨sd, 2, none⟩ = some (.int .i64 0) ∧ U.cell? ⟨sd, 3, none⟩ = some (.int .i64 0) ∧ (∀ i, U.frozen? ⟨sd, i, none⟩ = false) ∧ U.cell? ⟨V13.heap.size, 0, none⟩ = some (.int .i64 0) ∧ U.cell? ⟨V13.heap.size, 1, none⟩ = some (.int .i64 0) ∧ U.cell? ⟨V13.heap.size, 2, none⟩ = some (.int .i64 0) ∧ U.cell? ⟨V13.heap.size, 3, none⟩ = some (.int .i64 0) ∧ (∀ i, U.frozen? ⟨V13.heap.size, i, none⟩ = false)) ?_ ⟨bon BC B, cell_below B a0, cell_below B a1, cell_below B a2, cell_below B a3, cell_below B s0, cell_below B s1, cell_below B s2, cell_below B s3, cell_below B d0, cell_below B d1, cell_below B d2, cell_below B d3, fun i => (B.frozen (p := ⟨sd, i, none⟩) (show sd < _ from block_lt_of_cell d0)).trans (Fd i), p0, p1, p2, p3, Fp⟩
      clear BC B a0 a1 a2 a3 s0 s1 s2 s3 d0 d1 d2 d3 Fd p0 p1 p2 p3 Fp
      generalize V13.heap.size = sp at *
      rintro V14 ⟨BC, a0, a1, a2, a3, s0, s1, s2, s3, d0, d1, d2, d3, Fd, p0, p1, p2, p3, Fp⟩
      refine tree_one rfl ?_
      go_wp2_with (refine wpList_vstore (W := V14) rfl _ _ _ rfl x0 x1 x2 65536 rfl rfl p0 p1 p2 p3 Fp BC Lp (by kernel_rfl) ?_; intro V15 BC1 e0 e1 e2 e3 hc hf; replace BC := BC1; clear BC1 p0 p1 p2 p3; have p0 := e0; have p1 := e1; have p2 := e2; have p3 := e3; clear e0 e1 e2 e3; replace Fd := fun i => (hf ⟨_, i, none⟩).trans (Fd i); replace Fp := fun i => (hf ⟨_, i, none⟩).trans (Fp i); replace a0 := (hc ⟨w.heap.size, 0, none⟩ (by show w.heap.size ≠ sp; omega)).trans a0; replace a1 := (hc ⟨w.heap.size, 1, none⟩ (by show w.heap.size ≠ sp; omega)).trans a1; replace a2 := (hc ⟨w.heap.size, 2, none⟩ (by show w.heap.size ≠ sp; omega)).trans a2; replace a3 := (hc ⟨w.heap.size, 3, none⟩ (by show w.heap.size ≠ sp; omega)).trans a3; replace s0 := (hc ⟨sl, 0, none⟩ (by show sl ≠ sp; omega)).trans s0; replace s1 := (hc ⟨sl, 1, none⟩ (by show sl ≠ sp; omega)).trans s1; replace s2 := (hc ⟨sl, 2, none⟩ (by show sl ≠ sp; omega)).trans s2; replace s3 := (hc ⟨sl, 3, none⟩ (by show sl ≠ sp; omega)).trans s3; replace d0 := (hc ⟨sd, 0, none⟩ (by show sd ≠ sp; omega)).trans d0; replace d1 := (hc ⟨sd, 1, none⟩ (by show sd ≠ sp; omega)).trans d1; replace d2 := (hc ⟨sd, 2, none⟩ (by show sd ≠ sp; omega)).trans d2; replace d3 := (hc ⟨sd, 3, none⟩ (by show sd ≠ sp; omega)).trans d3; clear hc hf; go_simp)
      refine ⟨Ahead.of BC, ?_⟩
      refine tree_one rfl ?_
      go_wp2_with (refine wpList_vstore (W := V15) rfl _ _ _ rfl x0 x1 x2 0 rfl rfl d0 d1 d2 d3 Fd BC Ld (by kernel_rfl) ?_; intro V16 BC1 e0 e1 e2 e3 hc hf; replace BC := BC1; clear BC1 d0 d1 d2 d3; have d0 := e0; have d1 := e1; have d2 := e2; have d3 := e3; clear e0 e1 e2 e3; replace Fd := fun i => (hf ⟨_, i, none⟩).trans (Fd i); replace Fp := fun i => (hf ⟨_, i, none⟩).trans (Fp i); replace a0 := (hc ⟨w.heap.size, 0, none⟩ (by show w.heap.size ≠ sd; omega)).trans a0; replace a1 := (hc ⟨w.heap.size, 1, none⟩ (by show w.heap.size ≠ sd; omega)).trans a1; replace a2 := (hc ⟨w.heap.size, 2, none⟩ (by show w.heap.size ≠ sd; omega)).trans a2; replace a3 := (hc ⟨w.heap.size, 3, none⟩ (by show w.heap.size ≠ sd; omega)).trans a3; replace s0 := (hc ⟨sl, 0, none⟩ (by show sl ≠ sd; omega)).trans s0; replace s1 := (hc ⟨sl, 1, none⟩ (by show sl ≠ sd; omega)).trans s1; replace s2 := (hc ⟨sl, 2, none⟩ (by show sl ≠ sd; omega)).trans s2; replace s3 := (hc ⟨sl, 3, none⟩ (by show sl ≠ sd; omega)).trans s3; replace p0 := (hc ⟨sp, 0, none⟩ (by show sp ≠ sd; omega)).trans p0; replace p1 := (hc ⟨sp, 1, none⟩ (by show sp ≠ sd; omega)).trans p1; replace p2 := (hc ⟨sp, 2, none⟩ (by show sp ≠ sd; omega)).trans p2; replace p3 := (hc ⟨sp, 3, none⟩ (by show sp ≠ sd; omega)).trans p3; clear hc hf; go_simp)
      refine ⟨Ahead.of BC, ?_⟩
      refine tree_nil ?_
      have BB := bon BW BC
      clear BC BW HW HS Fp Fd Lp Ld
      go_wp2_with (first
        | (go_at_call 25; refine (translate_b _ _ _ _).mono ?_; rintro _ T1 ⟨rfl, B⟩; (replace BB := bon BB B; replace a0 := cell_below B a0; replace a1 := cell_below B a1; replace a2 := cell_below B a2; replace a3 := cell_below B a3; replace s0 := cell_below B s0; replace s1 := cell_below B s1; replace s2 := cell_below B s2; replace s3 := cell_below B s3; replace p0 := cell_below B p0; replace p1 := cell_below B p1; replace p2 := cell_below B p2; replace p3 := cell_below B p3; replace d0 := cell_below B d0; replace d1 := cell_below B d1; replace d2 := cell_below B d2; replace d3 := cell_below B d3); clear B)
        | (refine wpList_mfill (W := T1) rfl _ _ _ rfl (trm x y z) matT rfl rfl ?_; go_simp; have M5 := mat_box T1 (trm x y z) 23; have B := box_below T1 ((mats (trm x y z))) 23; (replace BB := bon BB B; replace a0 := cell_below B a0; replace a1 := cell_below B a1; replace a2 := cell_below B a2; replace a3 := cell_below B a3; replace s0 := cell_below B s0; replace s1 := cell_below B s1; replace s2 := cell_below B s2; replace s3 := cell_below B s3; replace p0 := cell_below B p0; replace p1 := cell_below B p1; replace p2 := cell_below B p2; replace p3 := cell_below B p3; replace d0 := cell_below B d0; replace d1 := cell_below B d1; replace d2 := cell_below B d2; replace d3 := cell_below B d3); clear B; generalize T1.heap.size = sm at *))
      have Ap0 := trm_p0 x y z x0 x1 x2
      have Ap1 := trm_p1 x y z x0 x1 x2
      have Ap2 := trm_p2 x y z x0 x1 x2
      have Ap3 := trm_p3 x y z x0 x1 x2
      have Ad0 := trm_d0 x y z x0 x1 x2
      have Ad1 := trm_d1 x y z x0 x1 x2
      have Ad2 := trm_d2 x y z x0 x1 x2
      have Ad3 := trm_d3 x y z x0 x1 x2
      have k_M5 := mat_regrown M5
      have k_a0 := cell_regrown a0
      have k_a1 := cell_regrown a1
      have k_a2 := cell_regrown a2
      have k_a3 := cell_regrown a3
      have k_s0 := cell_regrown s0
      have k_s1 := cell_regrown s1
      have k_s2 := cell_regrown s2
      have k_s3 := cell_regrown s3
      have k_p0 := cell_regrown p0
      have k_p1 := cell_regrown p1
      have k_p2 := cell_regrown p2
      have k_p3 := cell_regrown p3
      have k_d0 := cell_regrown d0
      have k_d1 := cell_regrown d1
      have k_d2 := cell_regrown d2
      have k_d3 := cell_regrown d3
      refine wp_region_quiet_below (by kernel_rfl) (by kernel_rfl) ?_
      repeat (first | (go_big_quiet_want; refine quiet_mload _ _ rfl matT (fun W hW => mat_class M5 hW) rfl ?_; go_simp; go_big_quiet_on) | go_big_quiet_step ((first | (go_at_call 12; exact Calls.regrown_of (apply_b _ _ _ _ _ _)) | (go_at_call 31; exact Calls.regrown_of (add_b _ _ _)))) | quiet_step ((first | (go_at_call 12; exact Calls.regrown_of (apply_b _ _ _ _ _ _)) | (go_at_call 31; exact Calls.regrown_of (add_b _ _ _)))))
      refine wpQuiet_nil ?_
      intro W hw'
      have B := below_regrown' hw'
      clear hw' k_M5 k_a0 k_a1 k_a2 k_a3 k_s0 k_s1 k_s2 k_s3 k_p0 k_p1 k_p2 k_p3 k_d0 k_d1 k_d2 k_d3
      replace BB := bon BB B
      replace M5 := mat_below B M5
      replace a0 := cell_below B a0
      replace a1 := cell_below B a1
      replace a2 := cell_below B a2
      replace a3 := cell_below B a3
      replace s0 := cell_below B s0
      replace s1 := cell_below B s1
      replace s2 := cell_below B s2
      replace s3 := cell_below B s3
      replace p0 := cell_below B p0
      replace p1 := cell_below B p1
      replace p2 := cell_below B p2
      replace p3 := cell_below B p3
      replace d0 := cell_below B d0
      replace d1 := cell_below B d1
      replace d2 := cell_below B d2
      replace d3 := cell_below B d3
      clear Ap0 Ap1 Ap2 Ap3 Ad0 Ad1 Ad2 Ad3 M5 p0 p1 p2 p3 d0 d1 d2 d3
      have A0 := scm_0 x y z x0 x1 x2 x3
      have A1 := scm_1 x y z x0 x1 x2 x3
      have A2 := scm_2 x y z x0 x1 x2 x3
      have A3 := scm_3 x y z x0 x1 x2 x3
      go_wp2_with fail
      have k_a0 := cell_regrown a0
      have k_a1 := cell_regrown a1
      have k_a2 := cell_regrown a2
      have k_a3 := cell_regrown a3
      have k_s0 := cell_regrown s0
      have k_s1 := cell_regrown s1
      have k_s2 := cell_regrown s2
      have k_s3 := cell_regrown s3
      refine wp_region_quiet_below (by kernel_rfl) (by kernel_rfl) ?_
      repeat (first | go_big_quiet_step ((first | (go_at_call 27; exact Calls.regrown_of (scale_b _ _ _ _)) | (go_at_call 12; exact Calls.regrown_of (apply_b _ _ _ _ _ _)) | (go_at_call 32; exact Calls.regrown_of (mul_b _ _ _)) | (go_at_call 18; exact Calls.regrown_of (example_b _)))) | quiet_step ((first | (go_at_call 27; exact Calls.regrown_of (scale_b _ _ _ _)) | (go_at_call 12; exact Calls.regrown_of (apply_b _ _ _ _ _ _)) | (go_at_call 32; exact Calls.regrown_of (mul_b _ _ _)) | (go_at_call 18; exact Calls.regrown_of (example_b _)))))
      refine wpQuiet_nil ?_
      intro W hw'
      have B := below_regrown' hw'
      clear hw' k_a0 k_a1 k_a2 k_a3 k_s0 k_s1 k_s2 k_s3
      replace BB := bon BB B
      replace a0 := cell_below B a0
      replace a1 := cell_below B a1
      replace a2 := cell_below B a2
      replace a3 := cell_below B a3
      replace s0 := cell_below B s0
      replace s1 := cell_below B s1
      replace s2 := cell_below B s2
      replace s3 := cell_below B s3
      go_wp2_with fail
      go_ret
      exact ⟨rfl, BB⟩
  · skip
    go_wp2_with fail
    have B := box_below V1 #[.int .i64 0, .int .i64 0, .int .i64 0, .int .i64 0] 25
    have s0 := box_cell V1 #[.int .i64 0, .int .i64 0, .int .i64 0, .int .i64 0] 25 0 _ rfl
    have s1 := box_cell V1 #[.int .i64 0, .int .i64 0, .int .i64 0, .int .i64 0] 25 1 _ rfl
    have s2 := box_cell V1 #[.int .i64 0, .int .i64 0, .int .i64 0, .int .i64 0] 25 2 _ rfl
    have s3 := box_cell V1 #[.int .i64 0, .int .i64 0, .int .i64 0, .int .i64 0] 25 3 _ rfl
    have Fs := fun i => box_frozen V1 #[.int .i64 0, .int .i64 0, .int .i64 0, .int .i64 0] 25 i
    have Ls : W.heap.size ≤ V1.heap.size := BC.size
    refine ⟨Ahead.of (bon BC B), ?_⟩
    refine tree_letter (S := fun U => Below W.heap.size W U ∧ U.cell? ⟨w.heap.size, 0, none⟩ = some (.int .i64 x0) ∧ U.cell? ⟨w.heap.size, 1, none⟩ = some (.int .i64 x1) ∧ U.cell? ⟨w.heap.size, 2, none⟩ = some (.int .i64 x2) ∧ U.cell? ⟨w.heap.size, 3, none⟩ = some (.int .i64 x3) ∧ U.cell? ⟨w.heap.size + 1, 0, none⟩ = some (.int .i64 x) ∧ U.cell? ⟨w.heap.size + 1, 1, none⟩ = some (.int .i64 y) ∧ U.cell? ⟨w.heap.size + 1, 2, none⟩ = some (.int .i64 z) ∧ U.cell? ⟨V1.heap.size, 0, none⟩ = some (.int .i64 0) ∧ U.cell? ⟨V1.heap.size, 1, none⟩ = some (.int .i64 0) ∧ U.cell? ⟨V1.heap.size, 2, none⟩ = some (.int .i64 0) ∧ U.cell? ⟨V1.heap.size, 3, none⟩ = some (.int .i64 0) ∧ (∀ i, U.frozen? ⟨V1.heap.size, i, none⟩ = false)) ?_ ⟨bon BC B, cell_below B a0, cell_below B a1, cell_below B a2, cell_below B a3, cell_below B b0, cell_below B b1, cell_below B b2, s0, s1, s2, s3, Fs⟩
    clear BC B a0 a1 a2 a3 b0 b1 b2 s0 s1 s2 s3 Fs
    generalize V1.heap.size = sl at *
    rintro V17 ⟨BC, a0, a1, a2, a3, b0, b1, b2, s0, s1, s2, s3, Fs⟩
    refine tree_one rfl ?_
    go_wp2_with (go_at_call 30; refine (limitedvec_b _ _ _ _ _).mono ?_; rintro _ V18 ⟨rfl, B⟩; replace BC := bon BC B; replace Fs := fun i => (B.frozen (p := ⟨sl, i, none⟩) (show sl < _ from block_lt_of_cell s0)).trans (Fs i); replace a0 := cell_below B a0; replace a1 := cell_below B a1; replace a2 := cell_below B a2; replace a3 := cell_below B a3; replace b0 := cell_below B b0; replace b1 := cell_below B b1; replace b2 := cell_below B b2; replace s0 := cell_below B s0; replace s1 := cell_below B s1; replace s2 := cell_below B s2; replace s3 := cell_below B s3; clear B)
    refine ⟨Ahead.of BC, ?_⟩
    refine tree_one rfl ?_
    go_wp2_with (refine wpList_vstore (W := V18) rfl _ _ _ rfl (sat x0) (sat x1) (sat x2) (sat x3) rfl rfl s0 s1 s2 s3 Fs BC Ls (by kernel_rfl) ?_; intro V19 BC1 e0 e1 e2 e3 hc hf; replace BC := BC1; clear BC1 s0 s1 s2 s3; have s0 := e0; have s1 := e1; have s2 := e2; have s3 := e3; clear e0 e1 e2 e3; replace Fs := fun i => (hf ⟨_, i, none⟩).trans (Fs i); replace a0 := (hc ⟨w.heap.size, 0, none⟩ (by show w.heap.size ≠ sl; omega)).trans a0; replace a1 := (hc ⟨w.heap.size, 1, none⟩ (by show w.heap.size ≠ sl; omega)).trans a1; replace a2 := (hc ⟨w.heap.size, 2, none⟩ (by show w.heap.size ≠ sl; omega)).trans a2; replace a3 := (hc ⟨w.heap.size, 3, none⟩ (by show w.heap.size ≠ sl; omega)).trans a3; replace b0 := (hc ⟨w.heap.size + 1, 0, none⟩ (by show w.heap.size + 1 ≠ sl; omega)).trans b0; replace b1 := (hc ⟨w.heap.size + 1, 1, none⟩ (by show w.heap.size + 1 ≠ sl; omega)).trans b1; replace b2 := (hc ⟨w.heap.size + 1, 2, none⟩ (by show w.heap.size + 1 ≠ sl; omega)).trans b2; clear hc hf; go_simp)
    refine ⟨Ahead.of BC, ?_⟩
    refine tree_one rfl ?_
    go_wp2_with fail
    refine ⟨Ahead.of BC, ?_⟩
    refine tree_one rfl ?_
    go_wp2_with fail
    refine ⟨Ahead.of BC, ?_⟩
    refine tree_one rfl ?_
    go_wp2_with fail
    refine ⟨Ahead.of BC, ?_⟩
    refine tree_nil ?_
    have BB := bon BW BC
    clear BC BW HW HB Fs Ls b0 b1 b2
    go_wp2_with fail
    refine letter (S := fun U => Below w.heap.size w U ∧ U.cell? ⟨w.heap.size, 0, none⟩ = some (.int .i64 x0) ∧ U.cell? ⟨w.heap.size, 1, none⟩ = some (.int .i64 x1) ∧ U.cell? ⟨w.heap.size, 2, none⟩ = some (.int .i64 x2) ∧ U.cell? ⟨w.heap.size, 3, none⟩ = some (.int .i64 x3) ∧ U.cell? ⟨sl, 0, none⟩ = some (.int .i64 (sat x0)) ∧ U.cell? ⟨sl, 1, none⟩ = some (.int .i64 (sat x1)) ∧ U.cell? ⟨sl, 2, none⟩ = some (.int .i64 (sat x2)) ∧ U.cell? ⟨sl, 3, none⟩ = some (.int .i64 (sat x3))) ?_ ⟨BB, a0, a1, a2, a3, s0, s1, s2, s3⟩
    clear BB a0 a1 a2 a3 s0 s1 s2 s3
    rintro W ⟨BW, a0, a1, a2, a3, s0, s1, s2, s3⟩
    refine wp_region_tree (.read 0 (.read 1 (.read 2 (.read 3 (.read 4 (.read 5 (.read 6 (.read 7 (.read 8 (.read 9 (.read 10 (.read 11 (.read 12 (.read 13 (.fork2 14 (.fork1 15 (.fork1 16 (.fork1 17 (.nil)))) 15 (.fork1 14 (.fork1 16 (.fork1 17 (.nil))))))))))))))))))) (by kernel_rfl) (by kernel_rfl) ?_
    intro V23 BC
    have HW : w.heap.size < W.heap.size := block_lt_of_cell a0
    have HS : sl < W.heap.size := block_lt_of_cell s0
    have k_a0 := cell_regrown a0
    have k_a1 := cell_regrown a1
    have k_a2 := cell_regrown a2
    have k_a3 := cell_regrown a3
    have k_s0 := cell_regrown s0
    have k_s1 := cell_regrown s1
    have k_s2 := cell_regrown s2
    have k_s3 := cell_regrown s3
    repeat (refine tree_read rfl ?_; quiet_step (fail); refine wpQuiet_nil ?_)
    clear k_a0 k_a1 k_a2 k_a3 k_s0 k_s1 k_s2 k_s3
    replace a0 := cell_below BC a0
    replace a1 := cell_below BC a1
    replace a2 := cell_below BC a2
    replace a3 := cell_below BC a3
    replace s0 := cell_below BC s0
    replace s1 := cell_below BC s1
    replace s2 := cell_below BC s2
    replace s3 := cell_below BC s3
    refine tree_two rfl rfl ?_ ?_
    · skip
      go_wp2_with fail
      have B := box_below V23 #[.int .i64 0, .int .i64 0, .int .i64 0, .int .i64 0] 25
      have p0 := box_cell V23 #[.int .i64 0, .int .i64 0, .int .i64 0, .int .i64 0] 25 0 _ rfl
      have p1 := box_cell V23 #[.int .i64 0, .int .i64 0, .int .i64 0, .int .i64 0] 25 1 _ rfl
      have p2 := box_cell V23 #[.int .i64 0, .int .i64 0, .int .i64 0, .int .i64 0] 25 2 _ rfl
      have p3 := box_cell V23 #[.int .i64 0, .int .i64 0, .int .i64 0, .int .i64 0] 25 3 _ rfl
      have Fp := fun i => box_frozen V23 #[.int .i64 0, .int .i64 0, .int .i64 0, .int .i64 0] 25 i
      have Lp : W.heap.size ≤ V23.heap.size := BC.size
      refine ⟨Ahead.of (bon BC B), ?_⟩
      refine tree_letter (S := fun U => Below W.heap.size W U ∧ U.cell? ⟨w.heap.size, 0, none⟩ = some (.int .i64 x0) ∧ U.cell? ⟨w.heap.size, 1, none⟩ = some (.int .i64 x1) ∧ U.cell? ⟨w.heap.size, 2, none⟩ = some (.int .i64 x2) ∧ U.cell? ⟨w.heap.size, 3, none⟩ = some (.int .i64 x3) ∧ U.cell? ⟨sl, 0, none⟩ = some (.int .i64 (sat x0)) ∧ U.cell? ⟨sl, 1, none⟩ = some (.int .i64 (sat x1)) ∧ U.cell? ⟨sl, 2, none⟩ = some (.int .i64 (sat x2)) ∧ U.cell? ⟨sl, 3, none⟩ = some (.int .i64 (sat x3)) ∧ U.cell? ⟨V23.heap.size, 0, none⟩ = some (.int .i64 0) ∧ U.cell? ⟨V23.heap.size, 1, none⟩ = some (.int .i64 0) ∧ U.cell? ⟨V23.heap.size, 2, none⟩ = some (.int .i64 0) ∧ U.cell? ⟨V23.heap.size, 3, none⟩ = some (.int .i64 0) ∧ (∀ i, U.frozen? ⟨V23.heap.size, i, none⟩ = false)) ?_ ⟨bon BC B, cell_below B a0, cell_below B a1, cell_below B a2, cell_below B a3, cell_below B s0, cell_below B s1, cell_below B s2, cell_below B s3, p0, p1, p2, p3, Fp⟩
      clear BC B a0 a1 a2 a3 s0 s1 s2 s3 p0 p1 p2 p3 Fp
      generalize V23.heap.size = sp at *
      rintro V24 ⟨BC, a0, a1, a2, a3, s0, s1, s2, s3, p0, p1, p2, p3, Fp⟩
      refine tree_one rfl ?_
      go_wp2_with fail
      have B := box_below V24 #[.int .i64 0, .int .i64 0, .int .i64 0, .int .i64 0] 25
      have d0 := box_cell V24 #[.int .i64 0, .int .i64 0, .int .i64 0, .int .i64 0] 25 0 _ rfl
      have d1 := box_cell V24 #[.int .i64 0, .int .i64 0, .int .i64 0, .int .i64 0] 25 1 _ rfl
      have d2 := box_cell V24 #[.int .i64 0, .int .i64 0, .int .i64 0, .int .i64 0] 25 2 _ rfl
      have d3 := box_cell V24 #[.int .i64 0, .int .i64 0, .int .i64 0, .int .i64 0] 25 3 _ rfl
      have Fd := fun i => box_frozen V24 #[.int .i64 0, .int .i64 0, .int .i64 0, .int .i64 0] 25 i
      have Ld : W.heap.size ≤ V24.heap.size := BC.size
      have Dpd : sp ≠ V24.heap.size := Nat.ne_of_lt (block_lt_of_cell p0)
      refine ⟨Ahead.of (bon BC B), ?_⟩
      refine tree_letter (S := fun U => Below W.heap.size W U ∧ U.cell? ⟨w.heap.size, 0, none⟩ = some (.int .i64 x0) ∧ U.cell? ⟨w.heap.size, 1, none⟩ = some (.int .i64 x1) ∧ U.cell? ⟨w.heap.size, 2, none⟩ = some (.int .i64 x2) ∧ U.cell? ⟨w.heap.size, 3, none⟩ = some (.int .i64 x3) ∧ U.cell? ⟨sl, 0, none⟩ = some (.int .i64 (sat x0)) ∧ U.cell? ⟨sl, 1, none⟩ = some (.int .i64 (sat x1)) ∧ U.cell? ⟨sl, 2, none⟩ = some (.int .i64 (sat x2)) ∧ U.cell? ⟨sl, 3, none⟩ = some (.int .i64 (sat x3)) ∧ U.cell? ⟨sp, 0, none⟩ = some (.int .i64 0) ∧ U.cell? ⟨sp, 1, none⟩ = some (.int .i64 0) ∧ U.cell? ⟨sp, 2, none⟩ = some (.int .i64 0) ∧ U.cell? ⟨sp, 3, none⟩ = some (.int .i64 0) ∧ (∀ i, U.frozen? ⟨sp, i, none⟩ = false) ∧ U.cell? ⟨V24.heap.size, 0, none⟩ = some (.int .i64 0) ∧ U.cell? ⟨V24.heap.size, 1, none⟩ = some (.int .i64 0) ∧ U.cell? ⟨V24.heap.size, 2, none⟩ = some (.int .i64 0) ∧ U.cell? ⟨V24.heap.size, 3, none⟩ = some (.int .i64 0) ∧ (∀ i, U.frozen? ⟨V24.heap.size, i, none⟩ = false)) ?_ ⟨bon BC B, cell_below B a0, cell_below B a1, cell_below B a2, cell_below B a3, cell_below B s0, cell_below B s1, cell_below B s2, cell_below B s3, cell_below B p0, cell_below B p1, cell_below B p2, cell_below B p3, fun i => (B.frozen (p := ⟨sp, i, none⟩) (show sp < _ from block_lt_of_cell p0)).trans (Fp i), d0, d1, d2, d3, Fd⟩
      clear BC B a0 a1 a2 a3 s0 s1 s2 s3 p0 p1 p2 p3 Fp d0 d1 d2 d3 Fd
      generalize V24.heap.size = sd at *
      rintro V25 ⟨BC, a0, a1, a2, a3, s0, s1, s2, s3, p0, p1, p2, p3, Fp, d0, d1, d2, d3, Fd⟩
      refine tree_one rfl ?_
      go_wp2_with (refine wpList_vstore (W := V25) rfl _ _ _ rfl x0 x1 x2 65536 rfl rfl p0 p1 p2 p3 Fp BC Lp (by kernel_rfl) ?_; intro V26 BC1 e0 e1 e2 e3 hc hf; replace BC := BC1; clear BC1 p0 p1 p2 p3; have p0 := e0; have p1 := e1; have p2 := e2; have p3 := e3; clear e0 e1 e2 e3; replace Fp := fun i => (hf ⟨_, i, none⟩).trans (Fp i); replace Fd := fun i => (hf ⟨_, i, none⟩).trans (Fd i); replace a0 := (hc ⟨w.heap.size, 0, none⟩ (by show w.heap.size ≠ sp; omega)).trans a0; replace a1 := (hc ⟨w.heap.size, 1, none⟩ (by show w.heap.size ≠ sp; omega)).trans a1; replace a2 := (hc ⟨w.heap.size, 2, none⟩ (by show w.heap.size ≠ sp; omega)).trans a2; replace a3 := (hc ⟨w.heap.size, 3, none⟩ (by show w.heap.size ≠ sp; omega)).trans a3; replace s0 := (hc ⟨sl, 0, none⟩ (by show sl ≠ sp; omega)).trans s0; replace s1 := (hc ⟨sl, 1, none⟩ (by show sl ≠ sp; omega)).trans s1; replace s2 := (hc ⟨sl, 2, none⟩ (by show sl ≠ sp; omega)).trans s2; replace s3 := (hc ⟨sl, 3, none⟩ (by show sl ≠ sp; omega)).trans s3; replace d0 := (hc ⟨sd, 0, none⟩ (by show sd ≠ sp; omega)).trans d0; replace d1 := (hc ⟨sd, 1, none⟩ (by show sd ≠ sp; omega)).trans d1; replace d2 := (hc ⟨sd, 2, none⟩ (by show sd ≠ sp; omega)).trans d2; replace d3 := (hc ⟨sd, 3, none⟩ (by show sd ≠ sp; omega)).trans d3; clear hc hf; go_simp)
      refine ⟨Ahead.of BC, ?_⟩
      refine tree_one rfl ?_
      go_wp2_with (refine wpList_vstore (W := V26) rfl _ _ _ rfl x0 x1 x2 0 rfl rfl d0 d1 d2 d3 Fd BC Ld (by kernel_rfl) ?_; intro V27 BC1 e0 e1 e2 e3 hc hf; replace BC := BC1; clear BC1 d0 d1 d2 d3; have d0 := e0; have d1 := e1; have d2 := e2; have d3 := e3; clear e0 e1 e2 e3; replace Fp := fun i => (hf ⟨_, i, none⟩).trans (Fp i); replace Fd := fun i => (hf ⟨_, i, none⟩).trans (Fd i); replace a0 := (hc ⟨w.heap.size, 0, none⟩ (by show w.heap.size ≠ sd; omega)).trans a0; replace a1 := (hc ⟨w.heap.size, 1, none⟩ (by show w.heap.size ≠ sd; omega)).trans a1; replace a2 := (hc ⟨w.heap.size, 2, none⟩ (by show w.heap.size ≠ sd; omega)).trans a2; replace a3 := (hc ⟨w.heap.size, 3, none⟩ (by show w.heap.size ≠ sd; omega)).trans a3; replace s0 := (hc ⟨sl, 0, none⟩ (by show sl ≠ sd; omega)).trans s0; replace s1 := (hc ⟨sl, 1, none⟩ (by show sl ≠ sd; omega)).trans s1; replace s2 := (hc ⟨sl, 2, none⟩ (by show sl ≠ sd; omega)).trans s2; replace s3 := (hc ⟨sl, 3, none⟩ (by show sl ≠ sd; omega)).trans s3; replace p0 := (hc ⟨sp, 0, none⟩ (by show sp ≠ sd; omega)).trans p0; replace p1 := (hc ⟨sp, 1, none⟩ (by show sp ≠ sd; omega)).trans p1; replace p2 := (hc ⟨sp, 2, none⟩ (by show sp ≠ sd; omega)).trans p2; replace p3 := (hc ⟨sp, 3, none⟩ (by show sp ≠ sd; omega)).trans p3; clear hc hf; go_simp)
      refine ⟨Ahead.of BC, ?_⟩
      refine tree_nil ?_
      have BB := bon BW BC
      clear BC BW HW HS Fp Fd Lp Ld
      go_wp2_with (first
        | (go_at_call 25; refine (translate_b _ _ _ _).mono ?_; rintro _ T1 ⟨rfl, B⟩; (replace BB := bon BB B; replace a0 := cell_below B a0; replace a1 := cell_below B a1; replace a2 := cell_below B a2; replace a3 := cell_below B a3; replace s0 := cell_below B s0; replace s1 := cell_below B s1; replace s2 := cell_below B s2; replace s3 := cell_below B s3; replace p0 := cell_below B p0; replace p1 := cell_below B p1; replace p2 := cell_below B p2; replace p3 := cell_below B p3; replace d0 := cell_below B d0; replace d1 := cell_below B d1; replace d2 := cell_below B d2; replace d3 := cell_below B d3); clear B)
        | (refine wpList_mfill (W := T1) rfl _ _ _ rfl (trm x y z) matT rfl rfl ?_; go_simp; have M5 := mat_box T1 (trm x y z) 23; have B := box_below T1 ((mats (trm x y z))) 23; (replace BB := bon BB B; replace a0 := cell_below B a0; replace a1 := cell_below B a1; replace a2 := cell_below B a2; replace a3 := cell_below B a3; replace s0 := cell_below B s0; replace s1 := cell_below B s1; replace s2 := cell_below B s2; replace s3 := cell_below B s3; replace p0 := cell_below B p0; replace p1 := cell_below B p1; replace p2 := cell_below B p2; replace p3 := cell_below B p3; replace d0 := cell_below B d0; replace d1 := cell_below B d1; replace d2 := cell_below B d2; replace d3 := cell_below B d3); clear B; generalize T1.heap.size = sm at *))
      have Ap0 := trm_p0 x y z x0 x1 x2
      have Ap1 := trm_p1 x y z x0 x1 x2
      have Ap2 := trm_p2 x y z x0 x1 x2
      have Ap3 := trm_p3 x y z x0 x1 x2
      have Ad0 := trm_d0 x y z x0 x1 x2
      have Ad1 := trm_d1 x y z x0 x1 x2
      have Ad2 := trm_d2 x y z x0 x1 x2
      have Ad3 := trm_d3 x y z x0 x1 x2
      have k_M5 := mat_regrown M5
      have k_a0 := cell_regrown a0
      have k_a1 := cell_regrown a1
      have k_a2 := cell_regrown a2
      have k_a3 := cell_regrown a3
      have k_s0 := cell_regrown s0
      have k_s1 := cell_regrown s1
      have k_s2 := cell_regrown s2
      have k_s3 := cell_regrown s3
      have k_p0 := cell_regrown p0
      have k_p1 := cell_regrown p1
      have k_p2 := cell_regrown p2
      have k_p3 := cell_regrown p3
      have k_d0 := cell_regrown d0
      have k_d1 := cell_regrown d1
      have k_d2 := cell_regrown d2
      have k_d3 := cell_regrown d3
      refine wp_region_quiet_below (by kernel_rfl) (by kernel_rfl) ?_
      repeat (first | (go_big_quiet_want; refine quiet_mload _ _ rfl matT (fun W hW => mat_class M5 hW) rfl ?_; go_simp; go_big_quiet_on) | go_big_quiet_step ((first | (go_at_call 12; exact Calls.regrown_of (apply_b _ _ _ _ _ _)) | (go_at_call 31; exact Calls.regrown_of (add_b _ _ _)))) | quiet_step ((first | (go_at_call 12; exact Calls.regrown_of (apply_b _ _ _ _ _ _)) | (go_at_call 31; exact Calls.regrown_of (add_b _ _ _)))))
      refine wpQuiet_nil ?_
      intro W hw'
      have B := below_regrown' hw'
      clear hw' k_M5 k_a0 k_a1 k_a2 k_a3 k_s0 k_s1 k_s2 k_s3 k_p0 k_p1 k_p2 k_p3 k_d0 k_d1 k_d2 k_d3
      replace BB := bon BB B
      replace M5 := mat_below B M5
      replace a0 := cell_below B a0
      replace a1 := cell_below B a1
      replace a2 := cell_below B a2
      replace a3 := cell_below B a3
      replace s0 := cell_below B s0
      replace s1 := cell_below B s1
      replace s2 := cell_below B s2
      replace s3 := cell_below B s3
      replace p0 := cell_below B p0
      replace p1 := cell_below B p1
      replace p2 := cell_below B p2
      replace p3 := cell_below B p3
      replace d0 := cell_below B d0
      replace d1 := cell_below B d1
      replace d2 := cell_below B d2
      replace d3 := cell_below B d3
      clear Ap0 Ap1 Ap2 Ap3 Ad0 Ad1 Ad2 Ad3 M5 p0 p1 p2 p3 d0 d1 d2 d3
      have A0 := scm_0 x y z x0 x1 x2 x3
      have A1 := scm_1 x y z x0 x1 x2 x3
      have A2 := scm_2 x y z x0 x1 x2 x3
      have A3 := scm_3 x y z x0 x1 x2 x3
      go_wp2_with fail
      have k_a0 := cell_regrown a0
      have k_a1 := cell_regrown a1
      have k_a2 := cell_regrown a2
      have k_a3 := cell_regrown a3
      have k_s0 := cell_regrown s0
      have k_s1 := cell_regrown s1
      have k_s2 := cell_regrown s2
      have k_s3 := cell_regrown s3
      refine wp_region_quiet_below (by kernel_rfl) (by kernel_rfl) ?_
      repeat (first | go_big_quiet_step ((first | (go_at_call 27; exact Calls.regrown_of (scale_b _ _ _ _)) | (go_at_call 12; exact Calls.regrown_of (apply_b _ _ _ _ _ _)) | (go_at_call 32; exact Calls.regrown_of (mul_b _ _ _)) | (go_at_call 18; exact Calls.regrown_of (example_b _)))) | quiet_step ((first | (go_at_call 27; exact Calls.regrown_of (scale_b _ _ _ _)) | (go_at_call 12; exact Calls.regrown_of (apply_b _ _ _ _ _ _)) | (go_at_call 32; exact Calls.regrown_of (mul_b _ _ _)) | (go_at_call 18; exact Calls.regrown_of (example_b _)))))
      refine wpQuiet_nil ?_
      intro W hw'
      have B := below_regrown' hw'
      clear hw' k_a0 k_a1 k_a2 k_a3 k_s0 k_s1 k_s2 k_s3
      replace BB := bon BB B
      replace a0 := cell_below B a0
      replace a1 := cell_below B a1
      replace a2 := cell_below B a2
      replace a3 := cell_below B a3
      replace s0 := cell_below B s0
      replace s1 := cell_below B s1
      replace s2 := cell_below B s2
      replace s3 := cell_below B s3
      go_wp2_with fail
      go_ret
      exact ⟨rfl, BB⟩
    · skip
      go_wp2_with fail
      have B := box_below V23 #[.int .i64 0, .int .i64 0, .int .i64 0, .int .i64 0] 25
      have d0 := box_cell V23 #[.int .i64 0, .int .i64 0, .int .i64 0, .int .i64 0] 25 0 _ rfl
      have d1 := box_cell V23 #[.int .i64 0, .int .i64 0, .int .i64 0, .int .i64 0] 25 1 _ rfl
      have d2 := box_cell V23 #[.int .i64 0, .int .i64 0, .int .i64 0, .int .i64 0] 25 2 _ rfl
      have d3 := box_cell V23 #[.int .i64 0, .int .i64 0, .int .i64 0, .int .i64 0] 25 3 _ rfl
      have Fd := fun i => box_frozen V23 #[.int .i64 0, .int .i64 0, .int .i64 0, .int .i64 0] 25 i
      have Ld : W.heap.size ≤ V23.heap.size := BC.size
      refine ⟨Ahead.of (bon BC B), ?_⟩
      refine tree_letter (S := fun U => Below W.heap.size W U ∧ U.cell? ⟨w.heap.size, 0, none⟩ = some (.int .i64 x0) ∧ U.cell? ⟨w.heap.size, 1, none⟩ = some (.int .i64 x1) ∧ U.cell? ⟨w.heap.size, 2, none⟩ = some (.int .i64 x2) ∧ U.cell? ⟨w.heap.size, 3, none⟩ = some (.int .i64 x3) ∧ U.cell? ⟨sl, 0, none⟩ = some (.int .i64 (sat x0)) ∧ U.cell? ⟨sl, 1, none⟩ = some (.int .i64 (sat x1)) ∧ U.cell? ⟨sl, 2, none⟩ = some (.int .i64 (sat x2)) ∧ U.cell? ⟨sl, 3, none⟩ = some (.int .i64 (sat x3)) ∧ U.cell? ⟨V23.heap.size, 0, none⟩ = some (.int .i64 0) ∧ U.cell? ⟨V23.heap.size, 1, none⟩ = some (.int .i64 0) ∧ U.cell? ⟨V23.heap.size, 2, none⟩ = some (.int .i64 0) ∧ U.cell? ⟨V23.heap.size, 3, none⟩ = some (.int .i64 0) ∧ (∀ i, U.frozen? ⟨V23.heap.size, i, none⟩ = false)) ?_ ⟨bon BC B, cell_below B a0, cell_below B a1, cell_below B a2, cell_below B a3, cell_below B s0, cell_below B s1, cell_below B s2, cell_below B s3, d0, d1, d2, d3, Fd⟩
      clear BC B a0 a1 a2 a3 s0 s1 s2 s3 d0 d1 d2 d3 Fd
      generalize V23.heap.size = sd at *
      rintro V28 ⟨BC, a0, a1, a2, a3, s0, s1, s2, s3, d0, d1, d2, d3, Fd⟩
      refine tree_one rfl ?_
      go_wp2_with fail
      have B := box_below V28 #[.int .i64 0, .int .i64 0, .int .i64 0, .int .i64 0] 25
      have p0 := box_cell V28 #[.int .i64 0, .int .i64 0, .int .i64 0, .int .i64 0] 25 0 _ rfl
      have p1 := box_cell V28 #[.int .i64 0, .int .i64 0, .int .i64 0, .int .i64 0] 25 1 _ rfl
      have p2 := box_cell V28 #[.int .i64 0, .int .i64 0, .int .i64 0, .int .i64 0] 25 2 _ rfl
      have p3 := box_cell V28 #[.int .i64 0, .int .i64 0, .int .i64 0, .int .i64 0] 25 3 _ rfl
      have Fp := fun i => box_frozen V28 #[.int .i64 0, .int .i64 0, .int .i64 0, .int .i64 0] 25 i
      have Lp : W.heap.size ≤ V28.heap.size := BC.size
      have Ddp : sd ≠ V28.heap.size := Nat.ne_of_lt (block_lt_of_cell d0)
      refine ⟨Ahead.of (bon BC B), ?_⟩
      refine tree_letter (S := fun U => Below W.heap.size W U ∧ U.cell? ⟨w.heap.size, 0, none⟩ = some (.int .i64 x0) ∧ U.cell? ⟨w.heap.size, 1, none⟩ = some (.int .i64 x1) ∧ U.cell? ⟨w.heap.size, 2, none⟩ = some (.int .i64 x2) ∧ U.cell? ⟨w.heap.size, 3, none⟩ = some (.int .i64 x3) ∧ U.cell? ⟨sl, 0, none⟩ = some (.int .i64 (sat x0)) ∧ U.cell? ⟨sl, 1, none⟩ = some (.int .i64 (sat x1)) ∧ U.cell? ⟨sl, 2, none⟩ = some (.int .i64 (sat x2)) ∧ U.cell? ⟨sl, 3, none⟩ = some (.int .i64 (sat x3)) ∧ U.cell? ⟨sd, 0, none⟩ = some (.int .i64 0) ∧ U.cell? ⟨sd, 1, none⟩ = some (.int .i64 0) ∧ U.cell? ⟨sd, 2, none⟩ = some (.int .i64 0) ∧ U.cell? ⟨sd, 3, none⟩ = some (.int .i64 0) ∧ (∀ i, U.frozen? ⟨sd, i, none⟩ = false) ∧ U.cell? ⟨V28.heap.size, 0, none⟩ = some (.int .i64 0) ∧ U.cell? ⟨V28.heap.size, 1, none⟩ = some (.int .i64 0) ∧ U.cell? ⟨V28.heap.size, 2, none⟩ = some (.int .i64 0) ∧ U.cell? ⟨V28.heap.size, 3, none⟩ = some (.int .i64 0) ∧ (∀ i, U.frozen? ⟨V28.heap.size, i, none⟩ = false)) ?_ ⟨bon BC B, cell_below B a0, cell_below B a1, cell_below B a2, cell_below B a3, cell_below B s0, cell_below B s1, cell_below B s2, cell_below B s3, cell_below B d0, cell_below B d1, cell_below B d2, cell_below B d3, fun i => (B.frozen (p := ⟨sd, i, none⟩) (show sd < _ from block_lt_of_cell d0)).trans (Fd i), p0, p1, p2, p3, Fp⟩
      clear BC B a0 a1 a2 a3 s0 s1 s2 s3 d0 d1 d2 d3 Fd p0 p1 p2 p3 Fp
      generalize V28.heap.size = sp at *
      rintro V29 ⟨BC, a0, a1, a2, a3, s0, s1, s2, s3, d0, d1, d2, d3, Fd, p0, p1, p2, p3, Fp⟩
      refine tree_one rfl ?_
      go_wp2_with (refine wpList_vstore (W := V29) rfl _ _ _ rfl x0 x1 x2 65536 rfl rfl p0 p1 p2 p3 Fp BC Lp (by kernel_rfl) ?_; intro V30 BC1 e0 e1 e2 e3 hc hf; replace BC := BC1; clear BC1 p0 p1 p2 p3; have p0 := e0; have p1 := e1; have p2 := e2; have p3 := e3; clear e0 e1 e2 e3; replace Fd := fun i => (hf ⟨_, i, none⟩).trans (Fd i); replace Fp := fun i => (hf ⟨_, i, none⟩).trans (Fp i); replace a0 := (hc ⟨w.heap.size, 0, none⟩ (by show w.heap.size ≠ sp; omega)).trans a0; replace a1 := (hc ⟨w.heap.size, 1, none⟩ (by show w.heap.size ≠ sp; omega)).trans a1; replace a2 := (hc ⟨w.heap.size, 2, none⟩ (by show w.heap.size ≠ sp; omega)).trans a2; replace a3 := (hc ⟨w.heap.size, 3, none⟩ (by show w.heap.size ≠ sp; omega)).trans a3; replace s0 := (hc ⟨sl, 0, none⟩ (by show sl ≠ sp; omega)).trans s0; replace s1 := (hc ⟨sl, 1, none⟩ (by show sl ≠ sp; omega)).trans s1; replace s2 := (hc ⟨sl, 2, none⟩ (by show sl ≠ sp; omega)).trans s2; replace s3 := (hc ⟨sl, 3, none⟩ (by show sl ≠ sp; omega)).trans s3; replace d0 := (hc ⟨sd, 0, none⟩ (by show sd ≠ sp; omega)).trans d0; replace d1 := (hc ⟨sd, 1, none⟩ (by show sd ≠ sp; omega)).trans d1; replace d2 := (hc ⟨sd, 2, none⟩ (by show sd ≠ sp; omega)).trans d2; replace d3 := (hc ⟨sd, 3, none⟩ (by show sd ≠ sp; omega)).trans d3; clear hc hf; go_simp)
      refine ⟨Ahead.of BC, ?_⟩
      refine tree_one rfl ?_
      go_wp2_with (refine wpList_vstore (W := V30) rfl _ _ _ rfl x0 x1 x2 0 rfl rfl d0 d1 d2 d3 Fd BC Ld (by kernel_rfl) ?_; intro V31 BC1 e0 e1 e2 e3 hc hf; replace BC := BC1; clear BC1 d0 d1 d2 d3; have d0 := e0; have d1 := e1; have d2 := e2; have d3 := e3; clear e0 e1 e2 e3; replace Fd := fun i => (hf ⟨_, i, none⟩).trans (Fd i); replace Fp := fun i => (hf ⟨_, i, none⟩).trans (Fp i); replace a0 := (hc ⟨w.heap.size, 0, none⟩ (by show w.heap.size ≠ sd; omega)).trans a0; replace a1 := (hc ⟨w.heap.size, 1, none⟩ (by show w.heap.size ≠ sd; omega)).trans a1; replace a2 := (hc ⟨w.heap.size, 2, none⟩ (by show w.heap.size ≠ sd; omega)).trans a2; replace a3 := (hc ⟨w.heap.size, 3, none⟩ (by show w.heap.size ≠ sd; omega)).trans a3; replace s0 := (hc ⟨sl, 0, none⟩ (by show sl ≠ sd; omega)).trans s0; replace s1 := (hc ⟨sl, 1, none⟩ (by show sl ≠ sd; omega)).trans s1; replace s2 := (hc ⟨sl, 2, none⟩ (by show sl ≠ sd; omega)).trans s2; replace s3 := (hc ⟨sl, 3, none⟩ (by show sl ≠ sd; omega)).trans s3; replace p0 := (hc ⟨sp, 0, none⟩ (by show sp ≠ sd; omega)).trans p0; replace p1 := (hc ⟨sp, 1, none⟩ (by show sp ≠ sd; omega)).trans p1; replace p2 := (hc ⟨sp, 2, none⟩ (by show sp ≠ sd; omega)).trans p2; replace p3 := (hc ⟨sp, 3, none⟩ (by show sp ≠ sd; omega)).trans p3; clear hc hf; go_simp)
      refine ⟨Ahead.of BC, ?_⟩
      refine tree_nil ?_
      have BB := bon BW BC
      clear BC BW HW HS Fp Fd Lp Ld
      go_wp2_with (first
        | (go_at_call 25; refine (translate_b _ _ _ _).mono ?_; rintro _ T1 ⟨rfl, B⟩; (replace BB := bon BB B; replace a0 := cell_below B a0; replace a1 := cell_below B a1; replace a2 := cell_below B a2; replace a3 := cell_below B a3; replace s0 := cell_below B s0; replace s1 := cell_below B s1; replace s2 := cell_below B s2; replace s3 := cell_below B s3; replace p0 := cell_below B p0; replace p1 := cell_below B p1; replace p2 := cell_below B p2; replace p3 := cell_below B p3; replace d0 := cell_below B d0; replace d1 := cell_below B d1; replace d2 := cell_below B d2; replace d3 := cell_below B d3); clear B)
        | (refine wpList_mfill (W := T1) rfl _ _ _ rfl (trm x y z) matT rfl rfl ?_; go_simp; have M5 := mat_box T1 (trm x y z) 23; have B := box_below T1 ((mats (trm x y z))) 23; (replace BB := bon BB B; replace a0 := cell_below B a0; replace a1 := cell_below B a1; replace a2 := cell_below B a2; replace a3 := cell_below B a3; replace s0 := cell_below B s0; replace s1 := cell_below B s1; replace s2 := cell_below B s2; replace s3 := cell_below B s3; replace p0 := cell_below B p0; replace p1 := cell_below B p1; replace p2 := cell_below B p2; replace p3 := cell_below B p3; replace d0 := cell_below B d0; replace d1 := cell_below B d1; replace d2 := cell_below B d2; replace d3 := cell_below B d3); clear B; generalize T1.heap.size = sm at *))
      have Ap0 := trm_p0 x y z x0 x1 x2
      have Ap1 := trm_p1 x y z x0 x1 x2
      have Ap2 := trm_p2 x y z x0 x1 x2
      have Ap3 := trm_p3 x y z x0 x1 x2
      have Ad0 := trm_d0 x y z x0 x1 x2
      have Ad1 := trm_d1 x y z x0 x1 x2
      have Ad2 := trm_d2 x y z x0 x1 x2
      have Ad3 := trm_d3 x y z x0 x1 x2
      have k_M5 := mat_regrown M5
      have k_a0 := cell_regrown a0
      have k_a1 := cell_regrown a1
      have k_a2 := cell_regrown a2
      have k_a3 := cell_regrown a3
      have k_s0 := cell_regrown s0
      have k_s1 := cell_regrown s1
      have k_s2 := cell_regrown s2
      have k_s3 := cell_regrown s3
      have k_p0 := cell_regrown p0
      have k_p1 := cell_regrown p1
      have k_p2 := cell_regrown p2
      have k_p3 := cell_regrown p3
      have k_d0 := cell_regrown d0
      have k_d1 := cell_regrown d1
      have k_d2 := cell_regrown d2
      have k_d3 := cell_regrown d3
      refine wp_region_quiet_below (by kernel_rfl) (by kernel_rfl) ?_
      repeat (first | (go_big_quiet_want; refine quiet_mload _ _ rfl matT (fun W hW => mat_class M5 hW) rfl ?_; go_simp; go_big_quiet_on) | go_big_quiet_step ((first | (go_at_call 12; exact Calls.regrown_of (apply_b _ _ _ _ _ _)) | (go_at_call 31; exact Calls.regrown_of (add_b _ _ _)))) | quiet_step ((first | (go_at_call 12; exact Calls.regrown_of (apply_b _ _ _ _ _ _)) | (go_at_call 31; exact Calls.regrown_of (add_b _ _ _)))))
      refine wpQuiet_nil ?_
      intro W hw'
      have B := below_regrown' hw'
      clear hw' k_M5 k_a0 k_a1 k_a2 k_a3 k_s0 k_s1 k_s2 k_s3 k_p0 k_p1 k_p2 k_p3 k_d0 k_d1 k_d2 k_d3
      replace BB := bon BB B
      replace M5 := mat_below B M5
      replace a0 := cell_below B a0
      replace a1 := cell_below B a1
      replace a2 := cell_below B a2
      replace a3 := cell_below B a3
      replace s0 := cell_below B s0
      replace s1 := cell_below B s1
      replace s2 := cell_below B s2
      replace s3 := cell_below B s3
      replace p0 := cell_below B p0
      replace p1 := cell_below B p1
      replace p2 := cell_below B p2
      replace p3 := cell_below B p3
      replace d0 := cell_below B d0
      replace d1 := cell_below B d1
      replace d2 := cell_below B d2
      replace d3 := cell_below B d3
      clear Ap0 Ap1 Ap2 Ap3 Ad0 Ad1 Ad2 Ad3 M5 p0 p1 p2 p3 d0 d1 d2 d3
      have A0 := scm_0 x y z x0 x1 x2 x3
      have A1 := scm_1 x y z x0 x1 x2 x3
      have A2 := scm_2 x y z x0 x1 x2 x3
      have A3 := scm_3 x y z x0 x1 x2 x3
      go_wp2_with fail
      have k_a0 := cell_regrown a0
      have k_a1 := cell_regrown a1
      have k_a2 := cell_regrown a2
      have k_a3 := cell_regrown a3
      have k_s0 := cell_regrown s0
      have k_s1 := cell_regrown s1
      have k_s2 := cell_regrown s2
      have k_s3 := cell_regrown s3
      refine wp_region_quiet_below (by kernel_rfl) (by kernel_rfl) ?_
      repeat (first | go_big_quiet_step ((first | (go_at_call 27; exact Calls.regrown_of (scale_b _ _ _ _)) | (go_at_call 12; exact Calls.regrown_of (apply_b _ _ _ _ _ _)) | (go_at_call 32; exact Calls.regrown_of (mul_b _ _ _)) | (go_at_call 18; exact Calls.regrown_of (example_b _)))) | quiet_step ((first | (go_at_call 27; exact Calls.regrown_of (scale_b _ _ _ _)) | (go_at_call 12; exact Calls.regrown_of (apply_b _ _ _ _ _ _)) | (go_at_call 32; exact Calls.regrown_of (mul_b _ _ _)) | (go_at_call 18; exact Calls.regrown_of (example_b _)))))
      refine wpQuiet_nil ?_
      intro W hw'
      have B := below_regrown' hw'
      clear hw' k_a0 k_a1 k_a2 k_a3 k_s0 k_s1 k_s2 k_s3
      replace BB := bon BB B
      replace a0 := cell_below B a0
      replace a1 := cell_below B a1
      replace a2 := cell_below B a2
      replace a3 := cell_below B a3
      replace s0 := cell_below B s0
      replace s1 := cell_below B s1
      replace s2 := cell_below B s2
      replace s3 := cell_below B s3
      go_wp2_with fail
      go_ret
      exact ⟨rfl, BB⟩

end Go.Proofs.Ytlchecnencbamaa
