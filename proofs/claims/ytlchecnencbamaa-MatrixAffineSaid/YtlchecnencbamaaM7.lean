/- The walk of the law MatrixIdentity. -/
import Derived.Test.YtlchecnencbamaaM6
import Derived.Test.YtlchecnencbamaaTree
namespace Go.Proofs.Ytlchecnencbamaa
open Go.RowKit Go.Sort

theorem sat_one : sat 65536 = 65536 := rfl
theorem sat_zero : sat 0 = 0 := rfl
theorem one_sat (x : Int) : sat (rda (sat x * 65536) 65536) = sat x := by
  have b := sat_bd x
  rw [rda_in _ _ (by omega) (by omega) (by omega) (by omega), rdv_mul_any _ _ (by omega), sat_sat]
theorem dotv_e0 (x0 x1 x2 x3 : Int) : dotv 65536 0 0 0 x0 x1 x2 x3 = sat x0 := by
  unfold dotv; rw [sat_one, sat_zero, show 65536 * sat x0 + 0 * sat x1 + 0 * sat x2 + 0 * sat x3 = sat x0 * 65536 by omega, one_sat]
theorem dotv_e1 (x0 x1 x2 x3 : Int) : dotv 0 65536 0 0 x0 x1 x2 x3 = sat x1 := by
  unfold dotv; rw [sat_one, sat_zero, show 0 * sat x0 + 65536 * sat x1 + 0 * sat x2 + 0 * sat x3 = sat x1 * 65536 by omega, one_sat]
theorem dotv_e2 (x0 x1 x2 x3 : Int) : dotv 0 0 65536 0 x0 x1 x2 x3 = sat x2 := by
  unfold dotv; rw [sat_one, sat_zero, show 0 * sat x0 + 0 * sat x1 + 65536 * sat x2 + 0 * sat x3 = sat x2 * 65536 by omega, one_sat]
theorem dotv_e3 (x0 x1 x2 x3 : Int) : dotv 0 0 0 65536 x0 x1 x2 x3 = sat x3 := by
  unfold dotv; rw [sat_one, sat_zero, show 0 * sat x0 + 0 * sat x1 + 0 * sat x2 + 65536 * sat x3 = sat x3 * 65536 by omega, one_sat]

theorem idm_mul (m : Nat → Int) : mats (mulm idm m) = mats (limm m) := by
  refine mats_ext (fun k hk => ?_)
  have hc : k = 0 ∨ k = 1 ∨ k = 2 ∨ k = 3 ∨ k = 4 ∨ k = 5 ∨ k = 6 ∨ k = 7 ∨ k = 8 ∨ k = 9 ∨ k = 10 ∨ k = 11 ∨ k = 12 ∨ k = 13 ∨ k = 14 ∨ k = 15 := by omega
  rcases hc with rfl | rfl | rfl | rfl | rfl | rfl | rfl | rfl | rfl | rfl | rfl | rfl | rfl | rfl | rfl | rfl
  · unfold mulm; exact dotv_e0 (m 0) (m 4) (m 8) (m 12)
  · unfold mulm; exact dotv_e0 (m 1) (m 5) (m 9) (m 13)
  · unfold mulm; exact dotv_e0 (m 2) (m 6) (m 10) (m 14)
  · unfold mulm; exact dotv_e0 (m 3) (m 7) (m 11) (m 15)
  · unfold mulm; exact dotv_e1 (m 0) (m 4) (m 8) (m 12)
  · unfold mulm; exact dotv_e1 (m 1) (m 5) (m 9) (m 13)
  · unfold mulm; exact dotv_e1 (m 2) (m 6) (m 10) (m 14)
  · unfold mulm; exact dotv_e1 (m 3) (m 7) (m 11) (m 15)
  · unfold mulm; exact dotv_e2 (m 0) (m 4) (m 8) (m 12)
  · unfold mulm; exact dotv_e2 (m 1) (m 5) (m 9) (m 13)
  · unfold mulm; exact dotv_e2 (m 2) (m 6) (m 10) (m 14)
  · unfold mulm; exact dotv_e2 (m 3) (m 7) (m 11) (m 15)
  · unfold mulm; exact dotv_e3 (m 0) (m 4) (m 8) (m 12)
  · unfold mulm; exact dotv_e3 (m 1) (m 5) (m 9) (m 13)
  · unfold mulm; exact dotv_e3 (m 2) (m 6) (m 10) (m 14)
  · unfold mulm; exact dotv_e3 (m 3) (m 7) (m 11) (m 15)

theorem mul_idm (m : Nat → Int) : mats (mulm m idm) = mats (limm m) := by
  refine mats_ext (fun k hk => ?_)
  have hc : k = 0 ∨ k = 1 ∨ k = 2 ∨ k = 3 ∨ k = 4 ∨ k = 5 ∨ k = 6 ∨ k = 7 ∨ k = 8 ∨ k = 9 ∨ k = 10 ∨ k = 11 ∨ k = 12 ∨ k = 13 ∨ k = 14 ∨ k = 15 := by omega
  rcases hc with rfl | rfl | rfl | rfl | rfl | rfl | rfl | rfl | rfl | rfl | rfl | rfl | rfl | rfl | rfl | rfl
  · unfold mulm; exact (dotv_comm' 65536 0 0 0 (m 0) (m 1) (m 2) (m 3)).trans (dotv_e0 (m 0) (m 1) (m 2) (m 3))
  · unfold mulm; exact (dotv_comm' 0 65536 0 0 (m 0) (m 1) (m 2) (m 3)).trans (dotv_e1 (m 0) (m 1) (m 2) (m 3))
  · unfold mulm; exact (dotv_comm' 0 0 65536 0 (m 0) (m 1) (m 2) (m 3)).trans (dotv_e2 (m 0) (m 1) (m 2) (m 3))
  · unfold mulm; exact (dotv_comm' 0 0 0 65536 (m 0) (m 1) (m 2) (m 3)).trans (dotv_e3 (m 0) (m 1) (m 2) (m 3))
  · unfold mulm; exact (dotv_comm' 65536 0 0 0 (m 4) (m 5) (m 6) (m 7)).trans (dotv_e0 (m 4) (m 5) (m 6) (m 7))
  · unfold mulm; exact (dotv_comm' 0 65536 0 0 (m 4) (m 5) (m 6) (m 7)).trans (dotv_e1 (m 4) (m 5) (m 6) (m 7))
  · unfold mulm; exact (dotv_comm' 0 0 65536 0 (m 4) (m 5) (m 6) (m 7)).trans (dotv_e2 (m 4) (m 5) (m 6) (m 7))
  · unfold mulm; exact (dotv_comm' 0 0 0 65536 (m 4) (m 5) (m 6) (m 7)).trans (dotv_e3 (m 4) (m 5) (m 6) (m 7))
  · unfold mulm; exact (dotv_comm' 65536 0 0 0 (m 8) (m 9) (m 10) (m 11)).trans (dotv_e0 (m 8) (m 9) (m 10) (m 11))
  · unfold mulm; exact (dotv_comm' 0 65536 0 0 (m 8) (m 9) (m 10) (m 11)).trans (dotv_e1 (m 8) (m 9) (m 10) (m 11))
  · unfold mulm; exact (dotv_comm' 0 0 65536 0 (m 8) (m 9) (m 10) (m 11)).trans (dotv_e2 (m 8) (m 9) (m 10) (m 11))
  · unfold mulm; exact (dotv_comm' 0 0 0 65536 (m 8) (m 9) (m 10) (m 11)).trans (dotv_e3 (m 8) (m 9) (m 10) (m 11))
  · unfold mulm; exact (dotv_comm' 65536 0 0 0 (m 12) (m 13) (m 14) (m 15)).trans (dotv_e0 (m 12) (m 13) (m 14) (m 15))
  · unfold mulm; exact (dotv_comm' 0 65536 0 0 (m 12) (m 13) (m 14) (m 15)).trans (dotv_e1 (m 12) (m 13) (m 14) (m 15))
  · unfold mulm; exact (dotv_comm' 0 0 65536 0 (m 12) (m 13) (m 14) (m 15)).trans (dotv_e2 (m 12) (m 13) (m 14) (m 15))
  · unfold mulm; exact (dotv_comm' 0 0 0 65536 (m 12) (m 13) (m 14) (m 15)).trans (dotv_e3 (m 12) (m 13) (m 14) (m 15))

theorem argsId (w : World) (m : Nat → Int) (x0 x1 x2 x3 : Int) (t u : TypeId) :
    Below w.heap.size w ((w.alloc (.cells (mats m) t)).alloc (.cells #[.int .i64 x0, .int .i64 x1, .int .i64 x2, .int .i64 x3] u)) ∧
    (∀ i, i < 16 → ((w.alloc (.cells (mats m) t)).alloc (.cells #[.int .i64 x0, .int .i64 x1, .int .i64 x2, .int .i64 x3] u)).cell? ⟨w.heap.size, i, none⟩ = some (.int .i64 (m i))) ∧
    ((w.alloc (.cells (mats m) t)).alloc (.cells #[.int .i64 x0, .int .i64 x1, .int .i64 x2, .int .i64 x3] u)).cell? ⟨w.heap.size + 1, 0, none⟩ = some (.int .i64 x0) ∧
    ((w.alloc (.cells (mats m) t)).alloc (.cells #[.int .i64 x0, .int .i64 x1, .int .i64 x2, .int .i64 x3] u)).cell? ⟨w.heap.size + 1, 1, none⟩ = some (.int .i64 x1) ∧
    ((w.alloc (.cells (mats m) t)).alloc (.cells #[.int .i64 x0, .int .i64 x1, .int .i64 x2, .int .i64 x3] u)).cell? ⟨w.heap.size + 1, 2, none⟩ = some (.int .i64 x2) ∧
    ((w.alloc (.cells (mats m) t)).alloc (.cells #[.int .i64 x0, .int .i64 x1, .int .i64 x2, .int .i64 x3] u)).cell? ⟨w.heap.size + 1, 3, none⟩ = some (.int .i64 x3) := by
  have BB : Below w.heap.size w w := Below.refl _ _
  have hsz0 : w.heap.size = w.heap.size := by simp
  obtain ⟨B, BB⟩ := box_on BB (mats m) t
  have M0 := mat_box w m t
  have Z0 := mat_boxz w m t
  rw [hsz0] at M0 Z0
  have hsz1 : (w.alloc (.cells (mats m) t)).heap.size = w.heap.size + 1 := by simp
  obtain ⟨B, BB⟩ := box_on BB #[.int .i64 x0, .int .i64 x1, .int .i64 x2, .int .i64 x3] u
  replace Z0 := matz_below B M0 Z0
  replace M0 := mat_below B M0
  have p1_0 := box_cell (w.alloc (.cells (mats m) t)) #[.int .i64 x0, .int .i64 x1, .int .i64 x2, .int .i64 x3] u 0 _ rfl
  have p1_1 := box_cell (w.alloc (.cells (mats m) t)) #[.int .i64 x0, .int .i64 x1, .int .i64 x2, .int .i64 x3] u 1 _ rfl
  have p1_2 := box_cell (w.alloc (.cells (mats m) t)) #[.int .i64 x0, .int .i64 x1, .int .i64 x2, .int .i64 x3] u 2 _ rfl
  have p1_3 := box_cell (w.alloc (.cells (mats m) t)) #[.int .i64 x0, .int .i64 x1, .int .i64 x2, .int .i64 x3] u 3 _ rfl
  have f1_0 := box_frozen (w.alloc (.cells (mats m) t)) #[.int .i64 x0, .int .i64 x1, .int .i64 x2, .int .i64 x3] u 0
  have f1_1 := box_frozen (w.alloc (.cells (mats m) t)) #[.int .i64 x0, .int .i64 x1, .int .i64 x2, .int .i64 x3] u 1
  have f1_2 := box_frozen (w.alloc (.cells (mats m) t)) #[.int .i64 x0, .int .i64 x1, .int .i64 x2, .int .i64 x3] u 2
  have f1_3 := box_frozen (w.alloc (.cells (mats m) t)) #[.int .i64 x0, .int .i64 x1, .int .i64 x2, .int .i64 x3] u 3
  rw [hsz1] at p1_0 p1_1 p1_2 p1_3 f1_0 f1_1 f1_2 f1_3
  exact ⟨BB, M0, p1_0, p1_1, p1_2, p1_3⟩

set_option maxRecDepth 100000 in
set_option maxHeartbeats 8000000 in
theorem identity_walk (m : Nat → Int) (x0 x1 x2 x3 : Int) (w : World) :
    Calls Try.prog 6 #[.agg (mats m), .agg #[.int .i64 x0, .int .i64 x1, .int .i64 x2, .int .i64 x3]] w fun e w' => e = .returned (.bool true) ∧ Below w.heap.size w w' := by
  obtain ⟨BB, M0, a0, a1, a2, a3⟩ := argsId w m x0 x1 x2 x3 23 25
  have EQ := meq
  have GU := mguard
  go_enter Try.func6, Try.ntmps6
  go_wp2_with fail
  refine letter (S := fun U => Below w.heap.size w U ∧ (∀ i, i < 16 → U.cell? ⟨w.heap.size, i, none⟩ = some (.int .i64 (m i))) ∧ U.cell? ⟨w.heap.size + 1, 0, none⟩ = some (.int .i64 x0) ∧ U.cell? ⟨w.heap.size + 1, 1, none⟩ = some (.int .i64 x1) ∧ U.cell? ⟨w.heap.size + 1, 2, none⟩ = some (.int .i64 x2) ∧ U.cell? ⟨w.heap.size + 1, 3, none⟩ = some (.int .i64 x3)) ?_ ⟨BB, M0, a0, a1, a2, a3⟩
  clear BB M0 a0 a1 a2 a3
  rintro W ⟨BW, M0, a0, a1, a2, a3⟩
  refine wp_region_tree (.read 1 (.fork3 0 (.fork3 2 (.fork2 3 (.fork1 4 (.fork1 5 (.fork1 6 .nil))) 4 (.fork1 3 (.fork1 5 (.fork1 6 .nil)))) 3 (.fork2 2 (.fork1 4 (.fork1 5 (.fork1 6 .nil))) 4 (.fork1 2 (.fork1 5 (.fork1 6 .nil)))) 4 (.fork2 2 (.fork1 3 (.fork1 5 (.fork1 6 .nil))) 3 (.fork1 2 (.fork1 5 (.fork1 6 .nil))))) 3 (.fork2 0 (.fork2 2 (.fork1 4 (.fork1 5 (.fork1 6 .nil))) 4 (.fork1 2 (.fork1 5 (.fork1 6 .nil)))) 4 (.fork1 0 (.fork1 2 (.fork1 5 (.fork1 6 .nil))))) 4 (.fork2 0 (.fork2 2 (.fork1 3 (.fork1 5 (.fork1 6 .nil))) 3 (.fork1 2 (.fork1 5 (.fork1 6 .nil)))) 3 (.fork1 0 (.fork1 2 (.fork1 5 (.fork1 6 .nil))))))) (by kernel_rfl) (by kernel_rfl) ?_
  intro V0 BC
  have HW : w.heap.size + 1 < W.heap.size := block_lt_of_cell a0
  refine tree_read rfl ?_
  refine BigFrame.wpQuiet_want rfl (fun K hK => ?_)
  refine quiet_mload _ _ rfl matT (fun V hV => mat_class M0 hV) rfl ?_
  refine hK _ ?_
  clear hK K
  refine wpQuiet_nil ?_
  replace M0 := mat_below BC M0
  replace a0 := cell_below BC a0
  replace a1 := cell_below BC a1
  replace a2 := cell_below BC a2
  replace a3 := cell_below BC a3
  go_simp
  refine tree_three rfl rfl rfl ?_ ?_ ?_
  · skip
    go_wp2_with (go_at_call 23; refine (identity_b _).mono ?_; rintro _ V1 ⟨rfl, B⟩; replace BC := bon BC B; replace M0 := mat_below B M0; replace a0 := cell_below B a0; replace a1 := cell_below B a1; replace a2 := cell_below B a2; replace a3 := cell_below B a3; clear B)
    refine ⟨Ahead.of BC, ?_⟩
    refine tree_three rfl rfl rfl ?_ ?_ ?_
    · skip
      go_wp2_with (go_at_call 29; refine (limitedmat_b _ _).mono ?_; rintro _ V2 ⟨rfl, B⟩; replace BC := bon BC B; replace M0 := mat_below B M0; replace a0 := cell_below B a0; replace a1 := cell_below B a1; replace a2 := cell_below B a2; replace a3 := cell_below B a3; clear B)
      refine ⟨Ahead.of BC, ?_⟩
      refine tree_two rfl rfl ?_ ?_
      · skip
        go_wp2_with fail
        have B := box_below V2 #[.int .i64 ((fun _ => 0) 0), .int .i64 ((fun _ => 0) 1), .int .i64 ((fun _ => 0) 2), .int .i64 ((fun _ => 0) 3), .int .i64 ((fun _ => 0) 4), .int .i64 ((fun _ => 0) 5), .int .i64 ((fun _ => 0) 6), .int .i64 ((fun _ => 0) 7), .int .i64 ((fun _ => 0) 8), .int .i64 ((fun _ => 0) 9), .int .i64 ((fun _ => 0) 10), .int .i64 ((fun _ => 0) 11), .int .i64 ((fun _ => 0) 12), .int .i64 ((fun _ => 0) 13), .int .i64 ((fun _ => 0) 14), .int .i64 ((fun _ => 0) 15)] 23
        have E := mat_box V2 (fun _ => 0) 23
        have Y := mat_boxz V2 (fun _ => 0) 23
        have L5 : W.heap.size ≤ V2.heap.size := BC.size
        refine ⟨Ahead.of (bon BC B), ?_⟩
        refine tree_letter (S := fun U => Below W.heap.size W U ∧ (∀ i, i < 16 → U.cell? ⟨w.heap.size, i, none⟩ = some (.int .i64 (m i))) ∧ U.cell? ⟨w.heap.size + 1, 0, none⟩ = some (.int .i64 x0) ∧ U.cell? ⟨w.heap.size + 1, 1, none⟩ = some (.int .i64 x1) ∧ U.cell? ⟨w.heap.size + 1, 2, none⟩ = some (.int .i64 x2) ∧ U.cell? ⟨w.heap.size + 1, 3, none⟩ = some (.int .i64 x3) ∧ (∀ i, i < 16 → U.cell? ⟨V2.heap.size, i, none⟩ = some (.int .i64 0)) ∧ (∀ i, i < 16 → U.frozen? ⟨V2.heap.size, i, none⟩ = false)) ?_ ⟨bon BC B, mat_below B M0, cell_below B a0, cell_below B a1, cell_below B a2, cell_below B a3, E, Y⟩
        clear BC M0 a0 a1 a2 a3 E Y B
        generalize V2.heap.size = s5 at *
        rintro V3 ⟨BC, M0, a0, a1, a2, a3, M5, Z5⟩
        refine tree_one rfl ?_
        · skip
          go_wp2_with fail
          have B := box_below V3 #[.int .i64 ((fun _ => 0) 0), .int .i64 ((fun _ => 0) 1), .int .i64 ((fun _ => 0) 2), .int .i64 ((fun _ => 0) 3), .int .i64 ((fun _ => 0) 4), .int .i64 ((fun _ => 0) 5), .int .i64 ((fun _ => 0) 6), .int .i64 ((fun _ => 0) 7), .int .i64 ((fun _ => 0) 8), .int .i64 ((fun _ => 0) 9), .int .i64 ((fun _ => 0) 10), .int .i64 ((fun _ => 0) 11), .int .i64 ((fun _ => 0) 12), .int .i64 ((fun _ => 0) 13), .int .i64 ((fun _ => 0) 14), .int .i64 ((fun _ => 0) 15)] 23
          have E := mat_box V3 (fun _ => 0) 23
          have Y := mat_boxz V3 (fun _ => 0) 23
          have L6 : W.heap.size ≤ V3.heap.size := BC.size
          have D : s5 ≠ V3.heap.size := Nat.ne_of_lt (block_lt_of_cell (M5 0 (by omega)))
          refine ⟨Ahead.of (bon BC B), ?_⟩
          refine tree_letter (S := fun U => Below W.heap.size W U ∧ (∀ i, i < 16 → U.cell? ⟨w.heap.size, i, none⟩ = some (.int .i64 (m i))) ∧ U.cell? ⟨w.heap.size + 1, 0, none⟩ = some (.int .i64 x0) ∧ U.cell? ⟨w.heap.size + 1, 1, none⟩ = some (.int .i64 x1) ∧ U.cell? ⟨w.heap.size + 1, 2, none⟩ = some (.int .i64 x2) ∧ U.cell? ⟨w.heap.size + 1, 3, none⟩ = some (.int .i64 x3) ∧ (∀ i, i < 16 → U.cell? ⟨V3.heap.size, i, none⟩ = some (.int .i64 0)) ∧ (∀ i, i < 16 → U.frozen? ⟨V3.heap.size, i, none⟩ = false) ∧ (∀ i, i < 16 → U.cell? ⟨s5, i, none⟩ = some (.int .i64 0)) ∧ (∀ i, i < 16 → U.frozen? ⟨s5, i, none⟩ = false)) ?_ ⟨bon BC B, mat_below B M0, cell_below B a0, cell_below B a1, cell_below B a2, cell_below B a3, E, Y, mat_below B M5, matz_below B M5 Z5⟩
          clear BC M0 a0 a1 a2 a3 E Y B M5 Z5
          generalize V3.heap.size = s6 at *
          rintro V4 ⟨BC, M0, a0, a1, a2, a3, M6, Z6, M5, Z5⟩
          refine tree_one rfl ?_
          · skip
            go_wp2_with (refine wpList_mstore (W := V4) rfl _ _ _ rfl idm rfl rfl (m0 := fun _ => 0) M5 Z5 BC L5 matT ?_; intro V5 BC1 E Y hc hf _; replace BC := BC1; clear M5 Z5 BC1; have M5 := E; have Z5 := Y; clear E Y; replace Z6 := matz_far hf Z6; replace M6 := mat_far hc (by omega) M6; replace M0 := mat_far hc (by omega) M0; replace a0 := (hc ⟨w.heap.size + 1, 0, none⟩ (by show w.heap.size + 1 ≠ s5; omega)).trans a0; replace a1 := (hc ⟨w.heap.size + 1, 1, none⟩ (by show w.heap.size + 1 ≠ s5; omega)).trans a1; replace a2 := (hc ⟨w.heap.size + 1, 2, none⟩ (by show w.heap.size + 1 ≠ s5; omega)).trans a2; replace a3 := (hc ⟨w.heap.size + 1, 3, none⟩ (by show w.heap.size + 1 ≠ s5; omega)).trans a3; clear hc hf; go_simp)
            refine ⟨Ahead.of BC, ?_⟩
            refine tree_one rfl ?_
            · skip
              go_wp2_with (refine wpList_mstore (W := V5) rfl _ _ _ rfl (limm m) rfl rfl (m0 := fun _ => 0) M6 Z6 BC L6 matT ?_; intro V6 BC1 E Y hc hf _; replace BC := BC1; clear M6 Z6 BC1; have M6 := E; have Z6 := Y; clear E Y; replace Z5 := matz_far hf Z5; replace M5 := mat_far hc (by omega) M5; replace M0 := mat_far hc (by omega) M0; replace a0 := (hc ⟨w.heap.size + 1, 0, none⟩ (by show w.heap.size + 1 ≠ s6; omega)).trans a0; replace a1 := (hc ⟨w.heap.size + 1, 1, none⟩ (by show w.heap.size + 1 ≠ s6; omega)).trans a1; replace a2 := (hc ⟨w.heap.size + 1, 2, none⟩ (by show w.heap.size + 1 ≠ s6; omega)).trans a2; replace a3 := (hc ⟨w.heap.size + 1, 3, none⟩ (by show w.heap.size + 1 ≠ s6; omega)).trans a3; clear hc hf; go_simp)
              refine ⟨Ahead.of BC, ?_⟩
              refine tree_nil ?_
              have BB := bon BW BC
              clear BC L5 L6 D HW Z5 Z6
              go_wp2_with fail
              have V0 : appv idm 0 x0 x1 x2 x3 = sat x0 := dotv_e0 _ _ _ _
              have V1 : appv idm 1 x0 x1 x2 x3 = sat x1 := dotv_e1 _ _ _ _
              have V2 : appv idm 2 x0 x1 x2 x3 = sat x2 := dotv_e2 _ _ _ _
              have V3 : appv idm 3 x0 x1 x2 x3 = sat x3 := dotv_e3 _ _ _ _
              have E1 := idm_mul m
              have E2 := mul_idm m
              have E3 : mats (trm 0 0 0) = mats idm := rfl
              have E4 : mats (scm 65536 65536 65536) = mats idm := rfl
              have k_M0 := mat_regrown M0
              have k_M5 := mat_regrown M5
              have k_M6 := mat_regrown M6
              have k_a0 := cell_regrown a0
              have k_a1 := cell_regrown a1
              have k_a2 := cell_regrown a2
              have k_a3 := cell_regrown a3
              refine wp_region_quiet_below (by kernel_rfl) (by kernel_rfl) ?_
              repeat (first | (go_big_quiet_want; refine quiet_mload _ _ rfl matT (fun W hW => mat_class M0 hW) rfl ?_; go_simp; go_big_quiet_on) | (go_big_quiet_want; refine quiet_mload _ _ rfl matT (fun W hW => mat_class M5 hW) rfl ?_; go_simp; go_big_quiet_on) | (go_big_quiet_want; refine quiet_mload _ _ rfl matT (fun W hW => mat_class M6 hW) rfl ?_; go_simp; go_big_quiet_on) | go_big_quiet_step ((first | (go_at_call 12; exact Calls.regrown_of (apply_b _ _ _ _ _ _)) | (go_at_call 30; exact Calls.regrown_of (limitedvec_b _ _ _ _ _)) | (go_at_call 14; exact Calls.regrown_of (mmul_b _ _ _)) | (go_at_call 25; exact Calls.regrown_of (translate_b _ _ _ _)) | (go_at_call 27; exact Calls.regrown_of (scale_b _ _ _ _)) | (go_at_call 18; exact Calls.regrown_of (example_b _)))) | quiet_step ((first | (go_at_call 12; exact Calls.regrown_of (apply_b _ _ _ _ _ _)) | (go_at_call 30; exact Calls.regrown_of (limitedvec_b _ _ _ _ _)) | (go_at_call 14; exact Calls.regrown_of (mmul_b _ _ _)) | (go_at_call 25; exact Calls.regrown_of (translate_b _ _ _ _)) | (go_at_call 27; exact Calls.regrown_of (scale_b _ _ _ _)) | (go_at_call 18; exact Calls.regrown_of (example_b _)))))
              refine wpQuiet_nil ?_
              intro W hw'
              have B := below_regrown' hw'
              clear hw' k_M0 k_M5 k_M6 k_a0 k_a1 k_a2 k_a3
              replace BB := bon BB B
              replace M0 := mat_below B M0
              replace M5 := mat_below B M5
              replace M6 := mat_below B M6
              replace a0 := cell_below B a0
              replace a1 := cell_below B a1
              replace a2 := cell_below B a2
              replace a3 := cell_below B a3
              go_wp2_with fail
              go_ret
              exact ⟨rfl, BB⟩
      · skip
        go_wp2_with fail
        have B := box_below V2 #[.int .i64 ((fun _ => 0) 0), .int .i64 ((fun _ => 0) 1), .int .i64 ((fun _ => 0) 2), .int .i64 ((fun _ => 0) 3), .int .i64 ((fun _ => 0) 4), .int .i64 ((fun _ => 0) 5), .int .i64 ((fun _ => 0) 6), .int .i64 ((fun _ => 0) 7), .int .i64 ((fun _ => 0) 8), .int .i64 ((fun _ => 0) 9), .int .i64 ((fun _ => 0) 10), .int .i64 ((fun _ => 0) 11), .int .i64 ((fun _ => 0) 12), .int .i64 ((fun _ => 0) 13), .int .i64 ((fun _ => 0) 14), .int .i64 ((fun _ => 0) 15)] 23
        have E := mat_box V2 (fun _ => 0) 23
        have Y := mat_boxz V2 (fun _ => 0) 23
        have L6 : W.heap.size ≤ V2.heap.size := BC.size
        refine ⟨Ahead.of (bon BC B), ?_⟩
        refine tree_letter (S := fun U => Below W.heap.size W U ∧ (∀ i, i < 16 → U.cell? ⟨w.heap.size, i, none⟩ = some (.int .i64 (m i))) ∧ U.cell? ⟨w.heap.size + 1, 0, none⟩ = some (.int .i64 x0) ∧ U.cell? ⟨w.heap.size + 1, 1, none⟩ = some (.int .i64 x1) ∧ U.cell? ⟨w.heap.size + 1, 2, none⟩ = some (.int .i64 x2) ∧ U.cell? ⟨w.heap.size + 1, 3, none⟩ = some (.int .i64 x3) ∧ (∀ i, i < 16 → U.cell? ⟨V2.heap.size, i, none⟩ = some (.int .i64 0)) ∧ (∀ i, i < 16 → U.frozen? ⟨V2.heap.size, i, none⟩ = false)) ?_ ⟨bon BC B, mat_below B M0, cell_below B a0, cell_below B a1, cell_below B a2, cell_below B a3, E, Y⟩
        clear BC M0 a0 a1 a2 a3 E Y B
        generalize V2.heap.size = s6 at *
        rintro V7 ⟨BC, M0, a0, a1, a2, a3, M6, Z6⟩
        refine tree_one rfl ?_
        · skip
          go_wp2_with fail
          have B := box_below V7 #[.int .i64 ((fun _ => 0) 0), .int .i64 ((fun _ => 0) 1), .int .i64 ((fun _ => 0) 2), .int .i64 ((fun _ => 0) 3), .int .i64 ((fun _ => 0) 4), .int .i64 ((fun _ => 0) 5), .int .i64 ((fun _ => 0) 6), .int .i64 ((fun _ => 0) 7), .int .i64 ((fun _ => 0) 8), .int .i64 ((fun _ => 0) 9), .int .i64 ((fun _ => 0) 10), .int .i64 ((fun _ => 0) 11), .int .i64 ((fun _ => 0) 12), .int .i64 ((fun _ => 0) 13), .int .i64 ((fun _ => 0) 14), .int .i64 ((fun _ => 0) 15)] 23
          have E := mat_box V7 (fun _ => 0) 23
          have Y := mat_boxz V7 (fun _ => 0) 23
          have L5 : W.heap.size ≤ V7.heap.size := BC.size
          have D : s6 ≠ V7.heap.size := Nat.ne_of_lt (block_lt_of_cell (M6 0 (by omega)))
          refine ⟨Ahead.of (bon BC B), ?_⟩
          refine tree_letter (S := fun U => Below W.heap.size W U ∧ (∀ i, i < 16 → U.cell? ⟨w.heap.size, i, none⟩ = some (.int .i64 (m i))) ∧ U.cell? ⟨w.heap.size + 1, 0, none⟩ = some (.int .i64 x0) ∧ U.cell? ⟨w.heap.size + 1, 1, none⟩ = some (.int .i64 x1) ∧ U.cell? ⟨w.heap.size + 1, 2, none⟩ = some (.int .i64 x2) ∧ U.cell? ⟨w.heap.size + 1, 3, none⟩ = some (.int .i64 x3) ∧ (∀ i, i < 16 → U.cell? ⟨V7.heap.size, i, none⟩ = some (.int .i64 0)) ∧ (∀ i, i < 16 → U.frozen? ⟨V7.heap.size, i, none⟩ = false) ∧ (∀ i, i < 16 → U.cell? ⟨s6, i, none⟩ = some (.int .i64 0)) ∧ (∀ i, i < 16 → U.frozen? ⟨s6, i, none⟩ = false)) ?_ ⟨bon BC B, mat_below B M0, cell_below B a0, cell_below B a1, cell_below B a2, cell_below B a3, E, Y, mat_below B M6, matz_below B M6 Z6⟩
          clear BC M0 a0 a1 a2 a3 E Y B M6 Z6
          generalize V7.heap.size = s5 at *
          rintro V8 ⟨BC, M0, a0, a1, a2, a3, M5, Z5, M6, Z6⟩
          refine tree_one rfl ?_
          · skip
            go_wp2_with (refine wpList_mstore (W := V8) rfl _ _ _ rfl idm rfl rfl (m0 := fun _ => 0) M5 Z5 BC L5 matT ?_; intro V9 BC1 E Y hc hf _; replace BC := BC1; clear M5 Z5 BC1; have M5 := E; have Z5 := Y; clear E Y; replace Z6 := matz_far hf Z6; replace M6 := mat_far hc (by omega) M6; replace M0 := mat_far hc (by omega) M0; replace a0 := (hc ⟨w.heap.size + 1, 0, none⟩ (by show w.heap.size + 1 ≠ s5; omega)).trans a0; replace a1 := (hc ⟨w.heap.size + 1, 1, none⟩ (by show w.heap.size + 1 ≠ s5; omega)).trans a1; replace a2 := (hc ⟨w.heap.size + 1, 2, none⟩ (by show w.heap.size + 1 ≠ s5; omega)).trans a2; replace a3 := (hc ⟨w.heap.size + 1, 3, none⟩ (by show w.heap.size + 1 ≠ s5; omega)).trans a3; clear hc hf; go_simp)
            refine ⟨Ahead.of BC, ?_⟩
            refine tree_one rfl ?_
            · skip
              go_wp2_with (refine wpList_mstore (W := V9) rfl _ _ _ rfl (limm m) rfl rfl (m0 := fun _ => 0) M6 Z6 BC L6 matT ?_; intro V10 BC1 E Y hc hf _; replace BC := BC1; clear M6 Z6 BC1; have M6 := E; have Z6 := Y; clear E Y; replace Z5 := matz_far hf Z5; replace M5 := mat_far hc (by omega) M5; replace M0 := mat_far hc (by omega) M0; replace a0 := (hc ⟨w.heap.size + 1, 0, none⟩ (by show w.heap.size + 1 ≠ s6; omega)).trans a0; replace a1 := (hc ⟨w.heap.size + 1, 1, none⟩ (by show w.heap.size + 1 ≠ s6; omega)).trans a1; replace a2 := (hc ⟨w.heap.size + 1, 2, none⟩ (by show w.heap.size + 1 ≠ s6; omega)).trans a2; replace a3 := (hc ⟨w.heap.size + 1, 3, none⟩ (by show w.heap.size + 1 ≠ s6; omega)).trans a3; clear hc hf; go_simp)
              refine ⟨Ahead.of BC, ?_⟩
              refine tree_nil ?_
              have BB := bon BW BC
              clear BC L5 L6 D HW Z5 Z6
              go_wp2_with fail
              have V0 : appv idm 0 x0 x1 x2 x3 = sat x0 := dotv_e0 _ _ _ _
              have V1 : appv idm 1 x0 x1 x2 x3 = sat x1 := dotv_e1 _ _ _ _
              have V2 : appv idm 2 x0 x1 x2 x3 = sat x2 := dotv_e2 _ _ _ _
              have V3 : appv idm 3 x0 x1 x2 x3 = sat x3 := dotv_e3 _ _ _ _
              have E1 := idm_mul m
              have E2 := mul_idm m
              have E3 : mats (trm 0 0 0) = mats idm := rfl
              have E4 : mats (scm 65536 65536 65536) = mats idm := rfl
              have k_M0 := mat_regrown M0
              have k_M5 := mat_regrown M5
              have k_M6 := mat_regrown M6
              have k_a0 := cell_regrown a0
              have k_a1 := cell_regrown a1
              have k_a2 := cell_regrown a2
              have k_a3 := cell_regrown a3
              refine wp_region_quiet_below (by kernel_rfl) (by kernel_rfl) ?_
              repeat (first | (go_big_quiet_want; refine quiet_mload _ _ rfl matT (fun W hW => mat_class M0 hW) rfl ?_; go_simp; go_big_quiet_on) | (go_big_quiet_want; refine quiet_mload _ _ rfl matT (fun W hW => mat_class M5 hW) rfl ?_; go_simp; go_big_quiet_on) | (go_big_quiet_want; refine quiet_mload _ _ rfl matT (fun W hW => mat_class M6 hW) rfl ?_; go_simp; go_big_quiet_on) | go_big_quiet_step ((first | (go_at_call 12; exact Calls.regrown_of (apply_b _ _ _ _ _ _)) | (go_at_call 30; exact Calls.regrown_of (limitedvec_b _ _ _ _ _)) | (go_at_call 14; exact Calls.regrown_of (mmul_b _ _ _)) | (go_at_call 25; exact Calls.regrown_of (translate_b _ _ _ _)) | (go_at_call 27; exact Calls.regrown_of (scale_b _ _ _ _)) | (go_at_call 18; exact Calls.regrown_of (example_b _)))) | quiet_step ((first | (go_at_call 12; exact Calls.regrown_of (apply_b _ _ _ _ _ _)) | (go_at_call 30; exact Calls.regrown_of (limitedvec_b _ _ _ _ _)) | (go_at_call 14; exact Calls.regrown_of (mmul_b _ _ _)) | (go_at_call 25; exact Calls.regrown_of (translate_b _ _ _ _)) | (go_at_call 27; exact Calls.regrown_of (scale_b _ _ _ _)) | (go_at_call 18; exact Calls.regrown_of (example_b _)))))
              refine wpQuiet_nil ?_
              intro W hw'
              have B := below_regrown' hw'
              clear hw' k_M0 k_M5 k_M6 k_a0 k_a1 k_a2 k_a3
              replace BB := bon BB B
              replace M0 := mat_below B M0
              replace M5 := mat_below B M5
              replace M6 := mat_below B M6
              replace a0 := cell_below B a0
              replace a1 := cell_below B a1
              replace a2 := cell_below B a2
              replace a3 := cell_below B a3
              go_wp2_with fail
              go_ret
              exact ⟨rfl, BB⟩
    · skip
      go_wp2_with fail
      have B := box_below V1 #[.int .i64 ((fun _ => 0) 0), .int .i64 ((fun _ => 0) 1), .int .i64 ((fun _ => 0) 2), .int .i64 ((fun _ => 0) 3), .int .i64 ((fun _ => 0) 4), .int .i64 ((fun _ => 0) 5), .int .i64 ((fun _ => 0) 6), .int .i64 ((fun _ => 0) 7), .int .i64 ((fun _ => 0) 8), .int .i64 ((fun _ => 0) 9), .int .i64 ((fun _ => 0) 10), .int .i64 ((fun _ => 0) 11), .int .i64 ((fun _ => 0) 12), .int .i64 ((fun _ => 0) 13), .int .i64 ((fun _ => 0) 14), .int .i64 ((fun _ => 0) 15)] 23
      have E := mat_box V1 (fun _ => 0) 23
      have Y := mat_boxz V1 (fun _ => 0) 23
      have L5 : W.heap.size ≤ V1.heap.size := BC.size
      refine ⟨Ahead.of (bon BC B), ?_⟩
      refine tree_letter (S := fun U => Below W.heap.size W U ∧ (∀ i, i < 16 → U.cell? ⟨w.heap.size, i, none⟩ = some (.int .i64 (m i))) ∧ U.cell? ⟨w.heap.size + 1, 0, none⟩ = some (.int .i64 x0) ∧ U.cell? ⟨w.heap.size + 1, 1, none⟩ = some (.int .i64 x1) ∧ U.cell? ⟨w.heap.size + 1, 2, none⟩ = some (.int .i64 x2) ∧ U.cell? ⟨w.heap.size + 1, 3, none⟩ = some (.int .i64 x3) ∧ (∀ i, i < 16 → U.cell? ⟨V1.heap.size, i, none⟩ = some (.int .i64 0)) ∧ (∀ i, i < 16 → U.frozen? ⟨V1.heap.size, i, none⟩ = false)) ?_ ⟨bon BC B, mat_below B M0, cell_below B a0, cell_below B a1, cell_below B a2, cell_below B a3, E, Y⟩
      clear BC M0 a0 a1 a2 a3 E Y B
      generalize V1.heap.size = s5 at *
      rintro V11 ⟨BC, M0, a0, a1, a2, a3, M5, Z5⟩
      refine tree_two rfl rfl ?_ ?_
      · skip
        go_wp2_with (go_at_call 29; refine (limitedmat_b _ _).mono ?_; rintro _ V12 ⟨rfl, B⟩; replace BC := bon BC B; replace Z5 := matz_below B M5 Z5; replace M0 := mat_below B M0; replace M5 := mat_below B M5; replace a0 := cell_below B a0; replace a1 := cell_below B a1; replace a2 := cell_below B a2; replace a3 := cell_below B a3; clear B)
        refine ⟨Ahead.of BC, ?_⟩
        refine tree_one rfl ?_
        · skip
          go_wp2_with fail
          have B := box_below V12 #[.int .i64 ((fun _ => 0) 0), .int .i64 ((fun _ => 0) 1), .int .i64 ((fun _ => 0) 2), .int .i64 ((fun _ => 0) 3), .int .i64 ((fun _ => 0) 4), .int .i64 ((fun _ => 0) 5), .int .i64 ((fun _ => 0) 6), .int .i64 ((fun _ => 0) 7), .int .i64 ((fun _ => 0) 8), .int .i64 ((fun _ => 0) 9), .int .i64 ((fun _ => 0) 10), .int .i64 ((fun _ => 0) 11), .int .i64 ((fun _ => 0) 12), .int .i64 ((fun _ => 0) 13), .int .i64 ((fun _ => 0) 14), .int .i64 ((fun _ => 0) 15)] 23
          have E := mat_box V12 (fun _ => 0) 23
          have Y := mat_boxz V12 (fun _ => 0) 23
          have L6 : W.heap.size ≤ V12.heap.size := BC.size
          have D : s5 ≠ V12.heap.size := Nat.ne_of_lt (block_lt_of_cell (M5 0 (by omega)))
          refine ⟨Ahead.of (bon BC B), ?_⟩
          refine tree_letter (S := fun U => Below W.heap.size W U ∧ (∀ i, i < 16 → U.cell? ⟨w.heap.size, i, none⟩ = some (.int .i64 (m i))) ∧ U.cell? ⟨w.heap.size + 1, 0, none⟩ = some (.int .i64 x0) ∧ U.cell? ⟨w.heap.size + 1, 1, none⟩ = some (.int .i64 x1) ∧ U.cell? ⟨w.heap.size + 1, 2, none⟩ = some (.int .i64 x2) ∧ U.cell? ⟨w.heap.size + 1, 3, none⟩ = some (.int .i64 x3) ∧ (∀ i, i < 16 → U.cell? ⟨V12.heap.size, i, none⟩ = some (.int .i64 0)) ∧ (∀ i, i < 16 → U.frozen? ⟨V12.heap.size, i, none⟩ = false) ∧ (∀ i, i < 16 → U.cell? ⟨s5, i, none⟩ = some (.int .i64 0)) ∧ (∀ i, i < 16 → U.frozen? ⟨s5, i, none⟩ = false)) ?_ ⟨bon BC B, mat_below B M0, cell_below B a0, cell_below B a1, cell_below B a2, cell_below B a3, E, Y, mat_below B M5, matz_below B M5 Z5⟩
          clear BC M0 a0 a1 a2 a3 E Y B M5 Z5
          generalize V12.heap.size = s6 at *
          rintro V13 ⟨BC, M0, a0, a1, a2, a3, M6, Z6, M5, Z5⟩
          refine tree_one rfl ?_
          · skip
            go_wp2_with (refine wpList_mstore (W := V13) rfl _ _ _ rfl idm rfl rfl (m0 := fun _ => 0) M5 Z5 BC L5 matT ?_; intro V14 BC1 E Y hc hf _; replace BC := BC1; clear M5 Z5 BC1; have M5 := E; have Z5 := Y; clear E Y; replace Z6 := matz_far hf Z6; replace M6 := mat_far hc (by omega) M6; replace M0 := mat_far hc (by omega) M0; replace a0 := (hc ⟨w.heap.size + 1, 0, none⟩ (by show w.heap.size + 1 ≠ s5; omega)).trans a0; replace a1 := (hc ⟨w.heap.size + 1, 1, none⟩ (by show w.heap.size + 1 ≠ s5; omega)).trans a1; replace a2 := (hc ⟨w.heap.size + 1, 2, none⟩ (by show w.heap.size + 1 ≠ s5; omega)).trans a2; replace a3 := (hc ⟨w.heap.size + 1, 3, none⟩ (by show w.heap.size + 1 ≠ s5; omega)).trans a3; clear hc hf; go_simp)
            refine ⟨Ahead.of BC, ?_⟩
            refine tree_one rfl ?_
            · skip
              go_wp2_with (refine wpList_mstore (W := V14) rfl _ _ _ rfl (limm m) rfl rfl (m0 := fun _ => 0) M6 Z6 BC L6 matT ?_; intro V15 BC1 E Y hc hf _; replace BC := BC1; clear M6 Z6 BC1; have M6 := E; have Z6 := Y; clear E Y; replace Z5 := matz_far hf Z5; replace M5 := mat_far hc (by omega) M5; replace M0 := mat_far hc (by omega) M0; replace a0 := (hc ⟨w.heap.size + 1, 0, none⟩ (by show w.heap.size + 1 ≠ s6; omega)).trans a0; replace a1 := (hc ⟨w.heap.size + 1, 1, none⟩ (by show w.heap.size + 1 ≠ s6; omega)).trans a1; replace a2 := (hc ⟨w.heap.size + 1, 2, none⟩ (by show w.heap.size + 1 ≠ s6; omega)).trans a2; replace a3 := (hc ⟨w.heap.size + 1, 3, none⟩ (by show w.heap.size + 1 ≠ s6; omega)).trans a3; clear hc hf; go_simp)
              refine ⟨Ahead.of BC, ?_⟩
              refine tree_nil ?_
              have BB := bon BW BC
              clear BC L5 L6 D HW Z5 Z6
              go_wp2_with fail
              have V0 : appv idm 0 x0 x1 x2 x3 = sat x0 := dotv_e0 _ _ _ _
              have V1 : appv idm 1 x0 x1 x2 x3 = sat x1 := dotv_e1 _ _ _ _
              have V2 : appv idm 2 x0 x1 x2 x3 = sat x2 := dotv_e2 _ _ _ _
              have V3 : appv idm 3 x0 x1 x2 x3 = sat x3 := dotv_e3 _ _ _ _
              have E1 := idm_mul m
              have E2 := mul_idm m
              have E3 : mats (trm 0 0 0) = mats idm := rfl
              have E4 : mats (scm 65536 65536 65536) = mats idm := rfl
              have k_M0 := mat_regrown M0
              have k_M5 := mat_regrown M5
              have k_M6 := mat_regrown M6
              have k_a0 := cell_regrown a0
              have k_a1 := cell_regrown a1
              have k_a2 := cell_regrown a2
              have k_a3 := cell_regrown a3
              refine wp_region_quiet_below (by kernel_rfl) (by kernel_rfl) ?_
              repeat (first | (go_big_quiet_want; refine quiet_mload _ _ rfl matT (fun W hW => mat_class M0 hW) rfl ?_; go_simp; go_big_quiet_on) | (go_big_quiet_want; refine quiet_mload _ _ rfl matT (fun W hW => mat_class M5 hW) rfl ?_; go_simp; go_big_quiet_on) | (go_big_quiet_want; refine quiet_mload _ _ rfl matT (fun W hW => mat_class M6 hW) rfl ?_; go_simp; go_big_quiet_on) | go_big_quiet_step ((first | (go_at_call 12; exact Calls.regrown_of (apply_b _ _ _ _ _ _)) | (go_at_call 30; exact Calls.regrown_of (limitedvec_b _ _ _ _ _)) | (go_at_call 14; exact Calls.regrown_of (mmul_b _ _ _)) | (go_at_call 25; exact Calls.regrown_of (translate_b _ _ _ _)) | (go_at_call 27; exact Calls.regrown_of (scale_b _ _ _ _)) | (go_at_call 18; exact Calls.regrown_of (example_b _)))) | quiet_step ((first | (go_at_call 12; exact Calls.regrown_of (apply_b _ _ _ _ _ _)) | (go_at_call 30; exact Calls.regrown_of (limitedvec_b _ _ _ _ _)) | (go_at_call 14; exact Calls.regrown_of (mmul_b _ _ _)) | (go_at_call 25; exact Calls.regrown_of (translate_b _ _ _ _)) | (go_at_call 27; exact Calls.regrown_of (scale_b _ _ _ _)) | (go_at_call 18; exact Calls.regrown_of (example_b _)))))
              refine wpQuiet_nil ?_
              intro W hw'
              have B := below_regrown' hw'
              clear hw' k_M0 k_M5 k_M6 k_a0 k_a1 k_a2 k_a3
              replace BB := bon BB B
              replace M0 := mat_below B M0
              replace M5 := mat_below B M5
              replace M6 := mat_below B M6
              replace a0 := cell_below B a0
              replace a1 := cell_below B a1
              replace a2 := cell_below B a2
              replace a3 := cell_below B a3
              go_wp2_with fail
              go_ret
              exact ⟨rfl, BB⟩
      · skip
        go_wp2_with fail
        have B := box_below V11 #[.int .i64 ((fun _ => 0) 0), .int .i64 ((fun _ => 0) 1), .int .i64 ((fun _ => 0) 2), .int .i64 ((fun _ => 0) 3), .int .i64 ((fun _ => 0) 4), .int .i64 ((fun _ => 0) 5), .int .i64 ((fun _ => 0) 6), .int .i64 ((fun _ => 0) 7), .int .i64 ((fun _ => 0) 8), .int .i64 ((fun _ => 0) 9), .int .i64 ((fun _ => 0) 10), .int .i64 ((fun _ => 0) 11), .int .i64 ((fun _ => 0) 12), .int .i64 ((fun _ => 0) 13), .int .i64 ((fun _ => 0) 14), .int .i64 ((fun _ => 0) 15)] 23
        have E := mat_box V11 (fun _ => 0) 23
        have Y := mat_boxz V11 (fun _ => 0) 23
        have L6 : W.heap.size ≤ V11.heap.size := BC.size
        have D : s5 ≠ V11.heap.size := Nat.ne_of_lt (block_lt_of_cell (M5 0 (by omega)))
        refine ⟨Ahead.of (bon BC B), ?_⟩
        refine tree_letter (S := fun U => Below W.heap.size W U ∧ (∀ i, i < 16 → U.cell? ⟨w.heap.size, i, none⟩ = some (.int .i64 (m i))) ∧ U.cell? ⟨w.heap.size + 1, 0, none⟩ = some (.int .i64 x0) ∧ U.cell? ⟨w.heap.size + 1, 1, none⟩ = some (.int .i64 x1) ∧ U.cell? ⟨w.heap.size + 1, 2, none⟩ = some (.int .i64 x2) ∧ U.cell? ⟨w.heap.size + 1, 3, none⟩ = some (.int .i64 x3) ∧ (∀ i, i < 16 → U.cell? ⟨V11.heap.size, i, none⟩ = some (.int .i64 0)) ∧ (∀ i, i < 16 → U.frozen? ⟨V11.heap.size, i, none⟩ = false) ∧ (∀ i, i < 16 → U.cell? ⟨s5, i, none⟩ = some (.int .i64 0)) ∧ (∀ i, i < 16 → U.frozen? ⟨s5, i, none⟩ = false)) ?_ ⟨bon BC B, mat_below B M0, cell_below B a0, cell_below B a1, cell_below B a2, cell_below B a3, E, Y, mat_below B M5, matz_below B M5 Z5⟩
        clear BC M0 a0 a1 a2 a3 E Y B M5 Z5
        generalize V11.heap.size = s6 at *
        rintro V16 ⟨BC, M0, a0, a1, a2, a3, M6, Z6, M5, Z5⟩
        refine tree_one rfl ?_
        · skip
          go_wp2_with (go_at_call 29; refine (limitedmat_b _ _).mono ?_; rintro _ V17 ⟨rfl, B⟩; replace BC := bon BC B; replace Z5 := matz_below B M5 Z5; replace Z6 := matz_below B M6 Z6; replace M0 := mat_below B M0; replace M5 := mat_below B M5; replace M6 := mat_below B M6; replace a0 := cell_below B a0; replace a1 := cell_below B a1; replace a2 := cell_below B a2; replace a3 := cell_below B a3; clear B)
          refine ⟨Ahead.of BC, ?_⟩
          refine tree_one rfl ?_
          · skip
            go_wp2_with (refine wpList_mstore (W := V17) rfl _ _ _ rfl idm rfl rfl (m0 := fun _ => 0) M5 Z5 BC L5 matT ?_; intro V18 BC1 E Y hc hf _; replace BC := BC1; clear M5 Z5 BC1; have M5 := E; have Z5 := Y; clear E Y; replace Z6 := matz_far hf Z6; replace M6 := mat_far hc (by omega) M6; replace M0 := mat_far hc (by omega) M0; replace a0 := (hc ⟨w.heap.size + 1, 0, none⟩ (by show w.heap.size + 1 ≠ s5; omega)).trans a0; replace a1 := (hc ⟨w.heap.size + 1, 1, none⟩ (by show w.heap.size + 1 ≠ s5; omega)).trans a1; replace a2 := (hc ⟨w.heap.size + 1, 2, none⟩ (by show w.heap.size + 1 ≠ s5; omega)).trans a2; replace a3 := (hc ⟨w.heap.size + 1, 3, none⟩ (by show w.heap.size + 1 ≠ s5; omega)).trans a3; clear hc hf; go_simp)
            refine ⟨Ahead.of BC, ?_⟩
            refine tree_one rfl ?_
            · skip
              go_wp2_with (refine wpList_mstore (W := V18) rfl _ _ _ rfl (limm m) rfl rfl (m0 := fun _ => 0) M6 Z6 BC L6 matT ?_; intro V19 BC1 E Y hc hf _; replace BC := BC1; clear M6 Z6 BC1; have M6 := E; have Z6 := Y; clear E Y; replace Z5 := matz_far hf Z5; replace M5 := mat_far hc (by omega) M5; replace M0 := mat_far hc (by omega) M0; replace a0 := (hc ⟨w.heap.size + 1, 0, none⟩ (by show w.heap.size + 1 ≠ s6; omega)).trans a0; replace a1 := (hc ⟨w.heap.size + 1, 1, none⟩ (by show w.heap.size + 1 ≠ s6; omega)).trans a1; replace a2 := (hc ⟨w.heap.size + 1, 2, none⟩ (by show w.heap.size + 1 ≠ s6; omega)).trans a2; replace a3 := (hc ⟨w.heap.size + 1, 3, none⟩ (by show w.heap.size + 1 ≠ s6; omega)).trans a3; clear hc hf; go_simp)
              refine ⟨Ahead.of BC, ?_⟩
              refine tree_nil ?_
              have BB := bon BW BC
              clear BC L5 L6 D HW Z5 Z6
              go_wp2_with fail
              have V0 : appv idm 0 x0 x1 x2 x3 = sat x0 := dotv_e0 _ _ _ _
              have V1 : appv idm 1 x0 x1 x2 x3 = sat x1 := dotv_e1 _ _ _ _
              have V2 : appv idm 2 x0 x1 x2 x3 = sat x2 := dotv_e2 _ _ _ _
              have V3 : appv idm 3 x0 x1 x2 x3 = sat x3 := dotv_e3 _ _ _ _
              have E1 := idm_mul m
              have E2 := mul_idm m
              have E3 : mats (trm 0 0 0) = mats idm := rfl
              have E4 : mats (scm 65536 65536 65536) = mats idm := rfl
              have k_M0 := mat_regrown M0
              have k_M5 := mat_regrown M5
              have k_M6 := mat_regrown M6
              have k_a0 := cell_regrown a0
              have k_a1 := cell_regrown a1
              have k_a2 := cell_regrown a2
              have k_a3 := cell_regrown a3
              refine wp_region_quiet_below (by kernel_rfl) (by kernel_rfl) ?_
              repeat (first | (go_big_quiet_want; refine quiet_mload _ _ rfl matT (fun W hW => mat_class M0 hW) rfl ?_; go_simp; go_big_quiet_on) | (go_big_quiet_want; refine quiet_mload _ _ rfl matT (fun W hW => mat_class M5 hW) rfl ?_; go_simp; go_big_quiet_on) | (go_big_quiet_want; refine quiet_mload _ _ rfl matT (fun W hW => mat_class M6 hW) rfl ?_; go_simp; go_big_quiet_on) | go_big_quiet_step ((first | (go_at_call 12; exact Calls.regrown_of (apply_b _ _ _ _ _ _)) | (go_at_call 30; exact Calls.regrown_of (limitedvec_b _ _ _ _ _)) | (go_at_call 14; exact Calls.regrown_of (mmul_b _ _ _)) | (go_at_call 25; exact Calls.regrown_of (translate_b _ _ _ _)) | (go_at_call 27; exact Calls.regrown_of (scale_b _ _ _ _)) | (go_at_call 18; exact Calls.regrown_of (example_b _)))) | quiet_step ((first | (go_at_call 12; exact Calls.regrown_of (apply_b _ _ _ _ _ _)) | (go_at_call 30; exact Calls.regrown_of (limitedvec_b _ _ _ _ _)) | (go_at_call 14; exact Calls.regrown_of (mmul_b _ _ _)) | (go_at_call 25; exact Calls.regrown_of (translate_b _ _ _ _)) | (go_at_call 27; exact Calls.regrown_of (scale_b _ _ _ _)) | (go_at_call 18; exact Calls.regrown_of (example_b _)))))
              refine wpQuiet_nil ?_
              intro W hw'
              have B := below_regrown' hw'
              clear hw' k_M0 k_M5 k_M6 k_a0 k_a1 k_a2 k_a3
              replace BB := bon BB B
              replace M0 := mat_below B M0
              replace M5 := mat_below B M5
              replace M6 := mat_below B M6
              replace a0 := cell_below B a0
              replace a1 := cell_below B a1
              replace a2 := cell_below B a2
              replace a3 := cell_below B a3
              go_wp2_with fail
              go_ret
              exact ⟨rfl, BB⟩
    · skip
      go_wp2_with fail
      have B := box_below V1 #[.int .i64 ((fun _ => 0) 0), .int .i64 ((fun _ => 0) 1), .int .i64 ((fun _ => 0) 2), .int .i64 ((fun _ => 0) 3), .int .i64 ((fun _ => 0) 4), .int .i64 ((fun _ => 0) 5), .int .i64 ((fun _ => 0) 6), .int .i64 ((fun _ => 0) 7), .int .i64 ((fun _ => 0) 8), .int .i64 ((fun _ => 0) 9), .int .i64 ((fun _ => 0) 10), .int .i64 ((fun _ => 0) 11), .int .i64 ((fun _ => 0) 12), .int .i64 ((fun _ => 0) 13), .int .i64 ((fun _ => 0) 14), .int .i64 ((fun _ => 0) 15)] 23
      have E := mat_box V1 (fun _ => 0) 23
      have Y := mat_boxz V1 (fun _ => 0) 23
      have L6 : W.heap.size ≤ V1.heap.size := BC.size
      refine ⟨Ahead.of (bon BC B), ?_⟩
      refine tree_letter (S := fun U => Below W.heap.size W U ∧ (∀ i, i < 16 → U.cell? ⟨w.heap.size, i, none⟩ = some (.int .i64 (m i))) ∧ U.cell? ⟨w.heap.size + 1, 0, none⟩ = some (.int .i64 x0) ∧ U.cell? ⟨w.heap.size + 1, 1, none⟩ = some (.int .i64 x1) ∧ U.cell? ⟨w.heap.size + 1, 2, none⟩ = some (.int .i64 x2) ∧ U.cell? ⟨w.heap.size + 1, 3, none⟩ = some (.int .i64 x3) ∧ (∀ i, i < 16 → U.cell? ⟨V1.heap.size, i, none⟩ = some (.int .i64 0)) ∧ (∀ i, i < 16 → U.frozen? ⟨V1.heap.size, i, none⟩ = false)) ?_ ⟨bon BC B, mat_below B M0, cell_below B a0, cell_below B a1, cell_below B a2, cell_below B a3, E, Y⟩
      clear BC M0 a0 a1 a2 a3 E Y B
      generalize V1.heap.size = s6 at *
      rintro V20 ⟨BC, M0, a0, a1, a2, a3, M6, Z6⟩
      refine tree_two rfl rfl ?_ ?_
      · skip
        go_wp2_with (go_at_call 29; refine (limitedmat_b _ _).mono ?_; rintro _ V21 ⟨rfl, B⟩; replace BC := bon BC B; replace Z6 := matz_below B M6 Z6; replace M0 := mat_below B M0; replace M6 := mat_below B M6; replace a0 := cell_below B a0; replace a1 := cell_below B a1; replace a2 := cell_below B a2; replace a3 := cell_below B a3; clear B)
        refine ⟨Ahead.of BC, ?_⟩
        refine tree_one rfl ?_
        · skip
          go_wp2_with fail
          have B := box_below V21 #[.int .i64 ((fun _ => 0) 0), .int .i64 ((fun _ => 0) 1), .int .i64 ((fun _ => 0) 2), .int .i64 ((fun _ => 0) 3), .int .i64 ((fun _ => 0) 4), .int .i64 ((fun _ => 0) 5), .int .i64 ((fun _ => 0) 6), .int .i64 ((fun _ => 0) 7), .int .i64 ((fun _ => 0) 8), .int .i64 ((fun _ => 0) 9), .int .i64 ((fun _ => 0) 10), .int .i64 ((fun _ => 0) 11), .int .i64 ((fun _ => 0) 12), .int .i64 ((fun _ => 0) 13), .int .i64 ((fun _ => 0) 14), .int .i64 ((fun _ => 0) 15)] 23
          have E := mat_box V21 (fun _ => 0) 23
          have Y := mat_boxz V21 (fun _ => 0) 23
          have L5 : W.heap.size ≤ V21.heap.size := BC.size
          have D : s6 ≠ V21.heap.size := Nat.ne_of_lt (block_lt_of_cell (M6 0 (by omega)))
          refine ⟨Ahead.of (bon BC B), ?_⟩
          refine tree_letter (S := fun U => Below W.heap.size W U ∧ (∀ i, i < 16 → U.cell? ⟨w.heap.size, i, none⟩ = some (.int .i64 (m i))) ∧ U.cell? ⟨w.heap.size + 1, 0, none⟩ = some (.int .i64 x0) ∧ U.cell? ⟨w.heap.size + 1, 1, none⟩ = some (.int .i64 x1) ∧ U.cell? ⟨w.heap.size + 1, 2, none⟩ = some (.int .i64 x2) ∧ U.cell? ⟨w.heap.size + 1, 3, none⟩ = some (.int .i64 x3) ∧ (∀ i, i < 16 → U.cell? ⟨V21.heap.size, i, none⟩ = some (.int .i64 0)) ∧ (∀ i, i < 16 → U.frozen? ⟨V21.heap.size, i, none⟩ = false) ∧ (∀ i, i < 16 → U.cell? ⟨s6, i, none⟩ = some (.int .i64 0)) ∧ (∀ i, i < 16 → U.frozen? ⟨s6, i, none⟩ = false)) ?_ ⟨bon BC B, mat_below B M0, cell_below B a0, cell_below B a1, cell_below B a2, cell_below B a3, E, Y, mat_below B M6, matz_below B M6 Z6⟩
          clear BC M0 a0 a1 a2 a3 E Y B M6 Z6
          generalize V21.heap.size = s5 at *
          rintro V22 ⟨BC, M0, a0, a1, a2, a3, M5, Z5, M6, Z6⟩
          refine tree_one rfl ?_
          · skip
            go_wp2_with (refine wpList_mstore (W := V22) rfl _ _ _ rfl idm rfl rfl (m0 := fun _ => 0) M5 Z5 BC L5 matT ?_; intro V23 BC1 E Y hc hf _; replace BC := BC1; clear M5 Z5 BC1; have M5 := E; have Z5 := Y; clear E Y; replace Z6 := matz_far hf Z6; replace M6 := mat_far hc (by omega) M6; replace M0 := mat_far hc (by omega) M0; replace a0 := (hc ⟨w.heap.size + 1, 0, none⟩ (by show w.heap.size + 1 ≠ s5; omega)).trans a0; replace a1 := (hc ⟨w.heap.size + 1, 1, none⟩ (by show w.heap.size + 1 ≠ s5; omega)).trans a1; replace a2 := (hc ⟨w.heap.size + 1, 2, none⟩ (by show w.heap.size + 1 ≠ s5; omega)).trans a2; replace a3 := (hc ⟨w.heap.size + 1, 3, none⟩ (by show w.heap.size + 1 ≠ s5; omega)).trans a3; clear hc hf; go_simp)
            refine ⟨Ahead.of BC, ?_⟩
            refine tree_one rfl ?_
            · skip
              go_wp2_with (refine wpList_mstore (W := V23) rfl _ _ _ rfl (limm m) rfl rfl (m0 := fun _ => 0) M6 Z6 BC L6 matT ?_; intro V24 BC1 E Y hc hf _; replace BC := BC1; clear M6 Z6 BC1; have M6 := E; have Z6 := Y; clear E Y; replace Z5 := matz_far hf Z5; replace M5 := mat_far hc (by omega) M5; replace M0 := mat_far hc (by omega) M0; replace a0 := (hc ⟨w.heap.size + 1, 0, none⟩ (by show w.heap.size + 1 ≠ s6; omega)).trans a0; replace a1 := (hc ⟨w.heap.size + 1, 1, none⟩ (by show w.heap.size + 1 ≠ s6; omega)).trans a1; replace a2 := (hc ⟨w.heap.size + 1, 2, none⟩ (by show w.heap.size + 1 ≠ s6; omega)).trans a2; replace a3 := (hc ⟨w.heap.size + 1, 3, none⟩ (by show w.heap.size + 1 ≠ s6; omega)).trans a3; clear hc hf; go_simp)
              refine ⟨Ahead.of BC, ?_⟩
              refine tree_nil ?_
              have BB := bon BW BC
              clear BC L5 L6 D HW Z5 Z6
              go_wp2_with fail
              have V0 : appv idm 0 x0 x1 x2 x3 = sat x0 := dotv_e0 _ _ _ _
              have V1 : appv idm 1 x0 x1 x2 x3 = sat x1 := dotv_e1 _ _ _ _
              have V2 : appv idm 2 x0 x1 x2 x3 = sat x2 := dotv_e2 _ _ _ _
              have V3 : appv idm 3 x0 x1 x2 x3 = sat x3 := dotv_e3 _ _ _ _
              have E1 := idm_mul m
              have E2 := mul_idm m
              have E3 : mats (trm 0 0 0) = mats idm := rfl
              have E4 : mats (scm 65536 65536 65536) = mats idm := rfl
              have k_M0 := mat_regrown M0
              have k_M5 := mat_regrown M5
              have k_M6 := mat_regrown M6
              have k_a0 := cell_regrown a0
              have k_a1 := cell_regrown a1
              have k_a2 := cell_regrown a2
              have k_a3 := cell_regrown a3
              refine wp_region_quiet_below (by kernel_rfl) (by kernel_rfl) ?_
              repeat (first | (go_big_quiet_want; refine quiet_mload _ _ rfl matT (fun W hW => mat_class M0 hW) rfl ?_; go_simp; go_big_quiet_on) | (go_big_quiet_want; refine quiet_mload _ _ rfl matT (fun W hW => mat_class M5 hW) rfl ?_; go_simp; go_big_quiet_on) | (go_big_quiet_want; refine quiet_mload _ _ rfl matT (fun W hW => mat_class M6 hW) rfl ?_; go_simp; go_big_quiet_on) | go_big_quiet_step ((first | (go_at_call 12; exact Calls.regrown_of (apply_b _ _ _ _ _ _)) | (go_at_call 30; exact Calls.regrown_of (limitedvec_b _ _ _ _ _)) | (go_at_call 14; exact Calls.regrown_of (mmul_b _ _ _)) | (go_at_call 25; exact Calls.regrown_of (translate_b _ _ _ _)) | (go_at_call 27; exact Calls.regrown_of (scale_b _ _ _ _)) | (go_at_call 18; exact Calls.regrown_of (example_b _)))) | quiet_step ((first | (go_at_call 12; exact Calls.regrown_of (apply_b _ _ _ _ _ _)) | (go_at_call 30; exact Calls.regrown_of (limitedvec_b _ _ _ _ _)) | (go_at_call 14; exact Calls.regrown_of (mmul_b _ _ _)) | (go_at_call 25; exact Calls.regrown_of (translate_b _ _ _ _)) | (go_at_call 27; exact Calls.regrown_of (scale_b _ _ _ _)) | (go_at_call 18; exact Calls.regrown_of (example_b _)))))
              refine wpQuiet_nil ?_
              intro W hw'
              have B := below_regrown' hw'
              clear hw' k_M0 k_M5 k_M6 k_a0 k_a1 k_a2 k_a3
              replace BB := bon BB B
              replace M0 := mat_below B M0
              replace M5 := mat_below B M5
              replace M6 := mat_below B M6
              replace a0 := cell_below B a0
              replace a1 := cell_below B a1
              replace a2 := cell_below B a2
              replace a3 := cell_below B a3
              go_wp2_with fail
              go_ret
              exact ⟨rfl, BB⟩
      · skip
        go_wp2_with fail
        have B := box_below V20 #[.int .i64 ((fun _ => 0) 0), .int .i64 ((fun _ => 0) 1), .int .i64 ((fun _ => 0) 2), .int .i64 ((fun _ => 0) 3), .int .i64 ((fun _ => 0) 4), .int .i64 ((fun _ => 0) 5), .int .i64 ((fun _ => 0) 6), .int .i64 ((fun _ => 0) 7), .int .i64 ((fun _ => 0) 8), .int .i64 ((fun _ => 0) 9), .int .i64 ((fun _ => 0) 10), .int .i64 ((fun _ => 0) 11), .int .i64 ((fun _ => 0) 12), .int .i64 ((fun _ => 0) 13), .int .i64 ((fun _ => 0) 14), .int .i64 ((fun _ => 0) 15)] 23
        have E := mat_box V20 (fun _ => 0) 23
        have Y := mat_boxz V20 (fun _ => 0) 23
        have L5 : W.heap.size ≤ V20.heap.size := BC.size
        have D : s6 ≠ V20.heap.size := Nat.ne_of_lt (block_lt_of_cell (M6 0 (by omega)))
        refine ⟨Ahead.of (bon BC B), ?_⟩
        refine tree_letter (S := fun U => Below W.heap.size W U ∧ (∀ i, i < 16 → U.cell? ⟨w.heap.size, i, none⟩ = some (.int .i64 (m i))) ∧ U.cell? ⟨w.heap.size + 1, 0, none⟩ = some (.int .i64 x0) ∧ U.cell? ⟨w.heap.size + 1, 1, none⟩ = some (.int .i64 x1) ∧ U.cell? ⟨w.heap.size + 1, 2, none⟩ = some (.int .i64 x2) ∧ U.cell? ⟨w.heap.size + 1, 3, none⟩ = some (.int .i64 x3) ∧ (∀ i, i < 16 → U.cell? ⟨V20.heap.size, i, none⟩ = some (.int .i64 0)) ∧ (∀ i, i < 16 → U.frozen? ⟨V20.heap.size, i, none⟩ = false) ∧ (∀ i, i < 16 → U.cell? ⟨s6, i, none⟩ = some (.int .i64 0)) ∧ (∀ i, i < 16 → U.frozen? ⟨s6, i, none⟩ = false)) ?_ ⟨bon BC B, mat_below B M0, cell_below B a0, cell_below B a1, cell_below B a2, cell_below B a3, E, Y, mat_below B M6, matz_below B M6 Z6⟩
        clear BC M0 a0 a1 a2 a3 E Y B M6 Z6
        generalize V20.heap.size = s5 at *
        rintro V25 ⟨BC, M0, a0, a1, a2, a3, M5, Z5, M6, Z6⟩
        refine tree_one rfl ?_
        · skip
          go_wp2_with (go_at_call 29; refine (limitedmat_b _ _).mono ?_; rintro _ V26 ⟨rfl, B⟩; replace BC := bon BC B; replace Z5 := matz_below B M5 Z5; replace Z6 := matz_below B M6 Z6; replace M0 := mat_below B M0; replace M5 := mat_below B M5; replace M6 := mat_below B M6; replace a0 := cell_below B a0; replace a1 := cell_below B a1; replace a2 := cell_below B a2; replace a3 := cell_below B a3; clear B)
          refine ⟨Ahead.of BC, ?_⟩
          refine tree_one rfl ?_
          · skip
            go_wp2_with (refine wpList_mstore (W := V26) rfl _ _ _ rfl idm rfl rfl (m0 := fun _ => 0) M5 Z5 BC L5 matT ?_; intro V27 BC1 E Y hc hf _; replace BC := BC1; clear M5 Z5 BC1; have M5 := E; have Z5 := Y; clear E Y; replace Z6 := matz_far hf Z6; replace M6 := mat_far hc (by omega) M6; replace M0 := mat_far hc (by omega) M0; replace a0 := (hc ⟨w.heap.size + 1, 0, none⟩ (by show w.heap.size + 1 ≠ s5; omega)).trans a0; replace a1 := (hc ⟨w.heap.size + 1, 1, none⟩ (by show w.heap.size + 1 ≠ s5; omega)).trans a1; replace a2 := (hc ⟨w.heap.size + 1, 2, none⟩ (by show w.heap.size + 1 ≠ s5; omega)).trans a2; replace a3 := (hc ⟨w.heap.size + 1, 3, none⟩ (by show w.heap.size + 1 ≠ s5; omega)).trans a3; clear hc hf; go_simp)
            refine ⟨Ahead.of BC, ?_⟩
            refine tree_one rfl ?_
            · skip
              go_wp2_with (refine wpList_mstore (W := V27) rfl _ _ _ rfl (limm m) rfl rfl (m0 := fun _ => 0) M6 Z6 BC L6 matT ?_; intro V28 BC1 E Y hc hf _; replace BC := BC1; clear M6 Z6 BC1; have M6 := E; have Z6 := Y; clear E Y; replace Z5 := matz_far hf Z5; replace M5 := mat_far hc (by omega) M5; replace M0 := mat_far hc (by omega) M0; replace a0 := (hc ⟨w.heap.size + 1, 0, none⟩ (by show w.heap.size + 1 ≠ s6; omega)).trans a0; replace a1 := (hc ⟨w.heap.size + 1, 1, none⟩ (by show w.heap.size + 1 ≠ s6; omega)).trans a1; replace a2 := (hc ⟨w.heap.size + 1, 2, none⟩ (by show w.heap.size + 1 ≠ s6; omega)).trans a2; replace a3 := (hc ⟨w.heap.size + 1, 3, none⟩ (by show w.heap.size + 1 ≠ s6; omega)).trans a3; clear hc hf; go_simp)
              refine ⟨Ahead.of BC, ?_⟩
              refine tree_nil ?_
              have BB := bon BW BC
              clear BC L5 L6 D HW Z5 Z6
              go_wp2_with fail
              have V0 : appv idm 0 x0 x1 x2 x3 = sat x0 := dotv_e0 _ _ _ _
              have V1 : appv idm 1 x0 x1 x2 x3 = sat x1 := dotv_e1 _ _ _ _
              have V2 : appv idm 2 x0 x1 x2 x3 = sat x2 := dotv_e2 _ _ _ _
              have V3 : appv idm 3 x0 x1 x2 x3 = sat x3 := dotv_e3 _ _ _ _
              have E1 := idm_mul m
              have E2 := mul_idm m
              have E3 : mats (trm 0 0 0) = mats idm := rfl
              have E4 : mats (scm 65536 65536 65536) = mats idm := rfl
              have k_M0 := mat_regrown M0
              have k_M5 := mat_regrown M5
              have k_M6 := mat_regrown M6
              have k_a0 := cell_regrown a0
              have k_a1 := cell_regrown a1
              have k_a2 := cell_regrown a2
              have k_a3 := cell_regrown a3
              refine wp_region_quiet_below (by kernel_rfl) (by kernel_rfl) ?_
              repeat (first | (go_big_quiet_want; refine quiet_mload _ _ rfl matT (fun W hW => mat_class M0 hW) rfl ?_; go_simp; go_big_quiet_on) | (go_big_quiet_want; refine quiet_mload _ _ rfl matT (fun W hW => mat_class M5 hW) rfl ?_; go_simp; go_big_quiet_on) | (go_big_quiet_want; refine quiet_mload _ _ rfl matT (fun W hW => mat_class M6 hW) rfl ?_; go_simp; go_big_quiet_on) | go_big_quiet_step ((first | (go_at_call 12; exact Calls.regrown_of (apply_b _ _ _ _ _ _)) | (go_at_call 30; exact Calls.regrown_of (limitedvec_b _ _ _ _ _)) | (go_at_call 14; exact Calls.regrown_of (mmul_b _ _ _)) | (go_at_call 25; exact Calls.regrown_of (translate_b _ _ _ _)) | (go_at_call 27; exact Calls.regrown_of (scale_b _ _ _ _)) | (go_at_call 18; exact Calls.regrown_of (example_b _)))) | quiet_step ((first | (go_at_call 12; exact Calls.regrown_of (apply_b _ _ _ _ _ _)) | (go_at_call 30; exact Calls.regrown_of (limitedvec_b _ _ _ _ _)) | (go_at_call 14; exact Calls.regrown_of (mmul_b _ _ _)) | (go_at_call 25; exact Calls.regrown_of (translate_b _ _ _ _)) | (go_at_call 27; exact Calls.regrown_of (scale_b _ _ _ _)) | (go_at_call 18; exact Calls.regrown_of (example_b _)))))
              refine wpQuiet_nil ?_
              intro W hw'
              have B := below_regrown' hw'
              clear hw' k_M0 k_M5 k_M6 k_a0 k_a1 k_a2 k_a3
              replace BB := bon BB B
              replace M0 := mat_below B M0
              replace M5 := mat_below B M5
              replace M6 := mat_below B M6
              replace a0 := cell_below B a0
              replace a1 := cell_below B a1
              replace a2 := cell_below B a2
              replace a3 := cell_below B a3
              go_wp2_with fail
              go_ret
              exact ⟨rfl, BB⟩
  · skip
    go_wp2_with fail
    have B := box_below V0 #[.int .i64 ((fun _ => 0) 0), .int .i64 ((fun _ => 0) 1), .int .i64 ((fun _ => 0) 2), .int .i64 ((fun _ => 0) 3), .int .i64 ((fun _ => 0) 4), .int .i64 ((fun _ => 0) 5), .int .i64 ((fun _ => 0) 6), .int .i64 ((fun _ => 0) 7), .int .i64 ((fun _ => 0) 8), .int .i64 ((fun _ => 0) 9), .int .i64 ((fun _ => 0) 10), .int .i64 ((fun _ => 0) 11), .int .i64 ((fun _ => 0) 12), .int .i64 ((fun _ => 0) 13), .int .i64 ((fun _ => 0) 14), .int .i64 ((fun _ => 0) 15)] 23
    have E := mat_box V0 (fun _ => 0) 23
    have Y := mat_boxz V0 (fun _ => 0) 23
    have L5 : W.heap.size ≤ V0.heap.size := BC.size
    refine ⟨Ahead.of (bon BC B), ?_⟩
    refine tree_letter (S := fun U => Below W.heap.size W U ∧ (∀ i, i < 16 → U.cell? ⟨w.heap.size, i, none⟩ = some (.int .i64 (m i))) ∧ U.cell? ⟨w.heap.size + 1, 0, none⟩ = some (.int .i64 x0) ∧ U.cell? ⟨w.heap.size + 1, 1, none⟩ = some (.int .i64 x1) ∧ U.cell? ⟨w.heap.size + 1, 2, none⟩ = some (.int .i64 x2) ∧ U.cell? ⟨w.heap.size + 1, 3, none⟩ = some (.int .i64 x3) ∧ (∀ i, i < 16 → U.cell? ⟨V0.heap.size, i, none⟩ = some (.int .i64 0)) ∧ (∀ i, i < 16 → U.frozen? ⟨V0.heap.size, i, none⟩ = false)) ?_ ⟨bon BC B, mat_below B M0, cell_below B a0, cell_below B a1, cell_below B a2, cell_below B a3, E, Y⟩
    clear BC M0 a0 a1 a2 a3 E Y B
    generalize V0.heap.size = s5 at *
    rintro V29 ⟨BC, M0, a0, a1, a2, a3, M5, Z5⟩
    refine tree_two rfl rfl ?_ ?_
    · skip
      go_wp2_with (go_at_call 23; refine (identity_b _).mono ?_; rintro _ V30 ⟨rfl, B⟩; replace BC := bon BC B; replace Z5 := matz_below B M5 Z5; replace M0 := mat_below B M0; replace M5 := mat_below B M5; replace a0 := cell_below B a0; replace a1 := cell_below B a1; replace a2 := cell_below B a2; replace a3 := cell_below B a3; clear B)
      refine ⟨Ahead.of BC, ?_⟩
      refine tree_two rfl rfl ?_ ?_
      · skip
        go_wp2_with (go_at_call 29; refine (limitedmat_b _ _).mono ?_; rintro _ V31 ⟨rfl, B⟩; replace BC := bon BC B; replace Z5 := matz_below B M5 Z5; replace M0 := mat_below B M0; replace M5 := mat_below B M5; replace a0 := cell_below B a0; replace a1 := cell_below B a1; replace a2 := cell_below B a2; replace a3 := cell_below B a3; clear B)
        refine ⟨Ahead.of BC, ?_⟩
        refine tree_one rfl ?_
        · skip
          go_wp2_with fail
          have B := box_below V31 #[.int .i64 ((fun _ => 0) 0), .int .i64 ((fun _ => 0) 1), .int .i64 ((fun _ => 0) 2), .int .i64 ((fun _ => 0) 3), .int .i64 ((fun _ => 0) 4), .int .i64 ((fun _ => 0) 5), .int .i64 ((fun _ => 0) 6), .int .i64 ((fun _ => 0) 7), .int .i64 ((fun _ => 0) 8), .int .i64 ((fun _ => 0) 9), .int .i64 ((fun _ => 0) 10), .int .i64 ((fun _ => 0) 11), .int .i64 ((fun _ => 0) 12), .int .i64 ((fun _ => 0) 13), .int .i64 ((fun _ => 0) 14), .int .i64 ((fun _ => 0) 15)] 23
          have E := mat_box V31 (fun _ => 0) 23
          have Y := mat_boxz V31 (fun _ => 0) 23
          have L6 : W.heap.size ≤ V31.heap.size := BC.size
          have D : s5 ≠ V31.heap.size := Nat.ne_of_lt (block_lt_of_cell (M5 0 (by omega)))
          refine ⟨Ahead.of (bon BC B), ?_⟩
          refine tree_letter (S := fun U => Below W.heap.size W U ∧ (∀ i, i < 16 → U.cell? ⟨w.heap.size, i, none⟩ = some (.int .i64 (m i))) ∧ U.cell? ⟨w.heap.size + 1, 0, none⟩ = some (.int .i64 x0) ∧ U.cell? ⟨w.heap.size + 1, 1, none⟩ = some (.int .i64 x1) ∧ U.cell? ⟨w.heap.size + 1, 2, none⟩ = some (.int .i64 x2) ∧ U.cell? ⟨w.heap.size + 1, 3, none⟩ = some (.int .i64 x3) ∧ (∀ i, i < 16 → U.cell? ⟨V31.heap.size, i, none⟩ = some (.int .i64 0)) ∧ (∀ i, i < 16 → U.frozen? ⟨V31.heap.size, i, none⟩ = false) ∧ (∀ i, i < 16 → U.cell? ⟨s5, i, none⟩ = some (.int .i64 0)) ∧ (∀ i, i < 16 → U.frozen? ⟨s5, i, none⟩ = false)) ?_ ⟨bon BC B, mat_below B M0, cell_below B a0, cell_below B a1, cell_below B a2, cell_below B a3, E, Y, mat_below B M5, matz_below B M5 Z5⟩
          clear BC M0 a0 a1 a2 a3 E Y B M5 Z5
          generalize V31.heap.size = s6 at *
          rintro V32 ⟨BC, M0, a0, a1, a2, a3, M6, Z6, M5, Z5⟩
          refine tree_one rfl ?_
          · skip
            go_wp2_with (refine wpList_mstore (W := V32) rfl _ _ _ rfl idm rfl rfl (m0 := fun _ => 0) M5 Z5 BC L5 matT ?_; intro V33 BC1 E Y hc hf _; replace BC := BC1; clear M5 Z5 BC1; have M5 := E; have Z5 := Y; clear E Y; replace Z6 := matz_far hf Z6; replace M6 := mat_far hc (by omega) M6; replace M0 := mat_far hc (by omega) M0; replace a0 := (hc ⟨w.heap.size + 1, 0, none⟩ (by show w.heap.size + 1 ≠ s5; omega)).trans a0; replace a1 := (hc ⟨w.heap.size + 1, 1, none⟩ (by show w.heap.size + 1 ≠ s5; omega)).trans a1; replace a2 := (hc ⟨w.heap.size + 1, 2, none⟩ (by show w.heap.size + 1 ≠ s5; omega)).trans a2; replace a3 := (hc ⟨w.heap.size + 1, 3, none⟩ (by show w.heap.size + 1 ≠ s5; omega)).trans a3; clear hc hf; go_simp)
            refine ⟨Ahead.of BC, ?_⟩
            refine tree_one rfl ?_
            · skip
              go_wp2_with (refine wpList_mstore (W := V33) rfl _ _ _ rfl (limm m) rfl rfl (m0 := fun _ => 0) M6 Z6 BC L6 matT ?_; intro V34 BC1 E Y hc hf _; replace BC := BC1; clear M6 Z6 BC1; have M6 := E; have Z6 := Y; clear E Y; replace Z5 := matz_far hf Z5; replace M5 := mat_far hc (by omega) M5; replace M0 := mat_far hc (by omega) M0; replace a0 := (hc ⟨w.heap.size + 1, 0, none⟩ (by show w.heap.size + 1 ≠ s6; omega)).trans a0; replace a1 := (hc ⟨w.heap.size + 1, 1, none⟩ (by show w.heap.size + 1 ≠ s6; omega)).trans a1; replace a2 := (hc ⟨w.heap.size + 1, 2, none⟩ (by show w.heap.size + 1 ≠ s6; omega)).trans a2; replace a3 := (hc ⟨w.heap.size + 1, 3, none⟩ (by show w.heap.size + 1 ≠ s6; omega)).trans a3; clear hc hf; go_simp)
              refine ⟨Ahead.of BC, ?_⟩
              refine tree_nil ?_
              have BB := bon BW BC
              clear BC L5 L6 D HW Z5 Z6
              go_wp2_with fail
              have V0 : appv idm 0 x0 x1 x2 x3 = sat x0 := dotv_e0 _ _ _ _
              have V1 : appv idm 1 x0 x1 x2 x3 = sat x1 := dotv_e1 _ _ _ _
              have V2 : appv idm 2 x0 x1 x2 x3 = sat x2 := dotv_e2 _ _ _ _
              have V3 : appv idm 3 x0 x1 x2 x3 = sat x3 := dotv_e3 _ _ _ _
              have E1 := idm_mul m
              have E2 := mul_idm m
              have E3 : mats (trm 0 0 0) = mats idm := rfl
              have E4 : mats (scm 65536 65536 65536) = mats idm := rfl
              have k_M0 := mat_regrown M0
              have k_M5 := mat_regrown M5
              have k_M6 := mat_regrown M6
              have k_a0 := cell_regrown a0
              have k_a1 := cell_regrown a1
              have k_a2 := cell_regrown a2
              have k_a3 := cell_regrown a3
              refine wp_region_quiet_below (by kernel_rfl) (by kernel_rfl) ?_
              repeat (first | (go_big_quiet_want; refine quiet_mload _ _ rfl matT (fun W hW => mat_class M0 hW) rfl ?_; go_simp; go_big_quiet_on) | (go_big_quiet_want; refine quiet_mload _ _ rfl matT (fun W hW => mat_class M5 hW) rfl ?_; go_simp; go_big_quiet_on) | (go_big_quiet_want; refine quiet_mload _ _ rfl matT (fun W hW => mat_class M6 hW) rfl ?_; go_simp; go_big_quiet_on) | go_big_quiet_step ((first | (go_at_call 12; exact Calls.regrown_of (apply_b _ _ _ _ _ _)) | (go_at_call 30; exact Calls.regrown_of (limitedvec_b _ _ _ _ _)) | (go_at_call 14; exact Calls.regrown_of (mmul_b _ _ _)) | (go_at_call 25; exact Calls.regrown_of (translate_b _ _ _ _)) | (go_at_call 27; exact Calls.regrown_of (scale_b _ _ _ _)) | (go_at_call 18; exact Calls.regrown_of (example_b _)))) | quiet_step ((first | (go_at_call 12; exact Calls.regrown_of (apply_b _ _ _ _ _ _)) | (go_at_call 30; exact Calls.regrown_of (limitedvec_b _ _ _ _ _)) | (go_at_call 14; exact Calls.regrown_of (mmul_b _ _ _)) | (go_at_call 25; exact Calls.regrown_of (translate_b _ _ _ _)) | (go_at_call 27; exact Calls.regrown_of (scale_b _ _ _ _)) | (go_at_call 18; exact Calls.regrown_of (example_b _)))))
              refine wpQuiet_nil ?_
              intro W hw'
              have B := below_regrown' hw'
              clear hw' k_M0 k_M5 k_M6 k_a0 k_a1 k_a2 k_a3
              replace BB := bon BB B
              replace M0 := mat_below B M0
              replace M5 := mat_below B M5
              replace M6 := mat_below B M6
              replace a0 := cell_below B a0
              replace a1 := cell_below B a1
              replace a2 := cell_below B a2
              replace a3 := cell_below B a3
              go_wp2_with fail
              go_ret
              exact ⟨rfl, BB⟩
      · skip
        go_wp2_with fail
        have B := box_below V30 #[.int .i64 ((fun _ => 0) 0), .int .i64 ((fun _ => 0) 1), .int .i64 ((fun _ => 0) 2), .int .i64 ((fun _ => 0) 3), .int .i64 ((fun _ => 0) 4), .int .i64 ((fun _ => 0) 5), .int .i64 ((fun _ => 0) 6), .int .i64 ((fun _ => 0) 7), .int .i64 ((fun _ => 0) 8), .int .i64 ((fun _ => 0) 9), .int .i64 ((fun _ => 0) 10), .int .i64 ((fun _ => 0) 11), .int .i64 ((fun _ => 0) 12), .int .i64 ((fun _ => 0) 13), .int .i64 ((fun _ => 0) 14), .int .i64 ((fun _ => 0) 15)] 23
        have E := mat_box V30 (fun _ => 0) 23
        have Y := mat_boxz V30 (fun _ => 0) 23
        have L6 : W.heap.size ≤ V30.heap.size := BC.size
        have D : s5 ≠ V30.heap.size := Nat.ne_of_lt (block_lt_of_cell (M5 0 (by omega)))
        refine ⟨Ahead.of (bon BC B), ?_⟩
        refine tree_letter (S := fun U => Below W.heap.size W U ∧ (∀ i, i < 16 → U.cell? ⟨w.heap.size, i, none⟩ = some (.int .i64 (m i))) ∧ U.cell? ⟨w.heap.size + 1, 0, none⟩ = some (.int .i64 x0) ∧ U.cell? ⟨w.heap.size + 1, 1, none⟩ = some (.int .i64 x1) ∧ U.cell? ⟨w.heap.size + 1, 2, none⟩ = some (.int .i64 x2) ∧ U.cell? ⟨w.heap.size + 1, 3, none⟩ = some (.int .i64 x3) ∧ (∀ i, i < 16 → U.cell? ⟨V30.heap.size, i, none⟩ = some (.int .i64 0)) ∧ (∀ i, i < 16 → U.frozen? ⟨V30.heap.size, i, none⟩ = false) ∧ (∀ i, i < 16 → U.cell? ⟨s5, i, none⟩ = some (.int .i64 0)) ∧ (∀ i, i < 16 → U.frozen? ⟨s5, i, none⟩ = false)) ?_ ⟨bon BC B, mat_below B M0, cell_below B a0, cell_below B a1, cell_below B a2, cell_below B a3, E, Y, mat_below B M5, matz_below B M5 Z5⟩
        clear BC M0 a0 a1 a2 a3 E Y B M5 Z5
        generalize V30.heap.size = s6 at *
        rintro V35 ⟨BC, M0, a0, a1, a2, a3, M6, Z6, M5, Z5⟩
        refine tree_one rfl ?_
        · skip
          go_wp2_with (go_at_call 29; refine (limitedmat_b _ _).mono ?_; rintro _ V36 ⟨rfl, B⟩; replace BC := bon BC B; replace Z5 := matz_below B M5 Z5; replace Z6 := matz_below B M6 Z6; replace M0 := mat_below B M0; replace M5 := mat_below B M5; replace M6 := mat_below B M6; replace a0 := cell_below B a0; replace a1 := cell_below B a1; replace a2 := cell_below B a2; replace a3 := cell_below B a3; clear B)
          refine ⟨Ahead.of BC, ?_⟩
          refine tree_one rfl ?_
          · skip
            go_wp2_with (refine wpList_mstore (W := V36) rfl _ _ _ rfl idm rfl rfl (m0 := fun _ => 0) M5 Z5 BC L5 matT ?_; intro V37 BC1 E Y hc hf _; replace BC := BC1; clear M5 Z5 BC1; have M5 := E; have Z5 := Y; clear E Y; replace Z6 := matz_far hf Z6; replace M6 := mat_far hc (by omega) M6; replace M0 := mat_far hc (by omega) M0; replace a0 := (hc ⟨w.heap.size + 1, 0, none⟩ (by show w.heap.size + 1 ≠ s5; omega)).trans a0; replace a1 := (hc ⟨w.heap.size + 1, 1, none⟩ (by show w.heap.size + 1 ≠ s5; omega)).trans a1; replace a2 := (hc ⟨w.heap.size + 1, 2, none⟩ (by show w.heap.size + 1 ≠ s5; omega)).trans a2; replace a3 := (hc ⟨w.heap.size + 1, 3, none⟩ (by show w.heap.size + 1 ≠ s5; omega)).trans a3; clear hc hf; go_simp)
            refine ⟨Ahead.of BC, ?_⟩
            refine tree_one rfl ?_
            · skip
              go_wp2_with (refine wpList_mstore (W := V37) rfl _ _ _ rfl (limm m) rfl rfl (m0 := fun _ => 0) M6 Z6 BC L6 matT ?_; intro V38 BC1 E Y hc hf _; replace BC := BC1; clear M6 Z6 BC1; have M6 := E; have Z6 := Y; clear E Y; replace Z5 := matz_far hf Z5; replace M5 := mat_far hc (by omega) M5; replace M0 := mat_far hc (by omega) M0; replace a0 := (hc ⟨w.heap.size + 1, 0, none⟩ (by show w.heap.size + 1 ≠ s6; omega)).trans a0; replace a1 := (hc ⟨w.heap.size + 1, 1, none⟩ (by show w.heap.size + 1 ≠ s6; omega)).trans a1; replace a2 := (hc ⟨w.heap.size + 1, 2, none⟩ (by show w.heap.size + 1 ≠ s6; omega)).trans a2; replace a3 := (hc ⟨w.heap.size + 1, 3, none⟩ (by show w.heap.size + 1 ≠ s6; omega)).trans a3; clear hc hf; go_simp)
              refine ⟨Ahead.of BC, ?_⟩
              refine tree_nil ?_
              have BB := bon BW BC
              clear BC L5 L6 D HW Z5 Z6
              go_wp2_with fail
              have V0 : appv idm 0 x0 x1 x2 x3 = sat x0 := dotv_e0 _ _ _ _
              have V1 : appv idm 1 x0 x1 x2 x3 = sat x1 := dotv_e1 _ _ _ _
              have V2 : appv idm 2 x0 x1 x2 x3 = sat x2 := dotv_e2 _ _ _ _
              have V3 : appv idm 3 x0 x1 x2 x3 = sat x3 := dotv_e3 _ _ _ _
              have E1 := idm_mul m
              have E2 := mul_idm m
              have E3 : mats (trm 0 0 0) = mats idm := rfl
              have E4 : mats (scm 65536 65536 65536) = mats idm := rfl
              have k_M0 := mat_regrown M0
              have k_M5 := mat_regrown M5
              have k_M6 := mat_regrown M6
              have k_a0 := cell_regrown a0
              have k_a1 := cell_regrown a1
              have k_a2 := cell_regrown a2
              have k_a3 := cell_regrown a3
              refine wp_region_quiet_below (by kernel_rfl) (by kernel_rfl) ?_
              repeat (first | (go_big_quiet_want; refine quiet_mload _ _ rfl matT (fun W hW => mat_class M0 hW) rfl ?_; go_simp; go_big_quiet_on) | (go_big_quiet_want; refine quiet_mload _ _ rfl matT (fun W hW => mat_class M5 hW) rfl ?_; go_simp; go_big_quiet_on) | (go_big_quiet_want; refine quiet_mload _ _ rfl matT (fun W hW => mat_class M6 hW) rfl ?_; go_simp; go_big_quiet_on) | go_big_quiet_step ((first | (go_at_call 12; exact Calls.regrown_of (apply_b _ _ _ _ _ _)) | (go_at_call 30; exact Calls.regrown_of (limitedvec_b _ _ _ _ _)) | (go_at_call 14; exact Calls.regrown_of (mmul_b _ _ _)) | (go_at_call 25; exact Calls.regrown_of (translate_b _ _ _ _)) | (go_at_call 27; exact Calls.regrown_of (scale_b _ _ _ _)) | (go_at_call 18; exact Calls.regrown_of (example_b _)))) | quiet_step ((first | (go_at_call 12; exact Calls.regrown_of (apply_b _ _ _ _ _ _)) | (go_at_call 30; exact Calls.regrown_of (limitedvec_b _ _ _ _ _)) | (go_at_call 14; exact Calls.regrown_of (mmul_b _ _ _)) | (go_at_call 25; exact Calls.regrown_of (translate_b _ _ _ _)) | (go_at_call 27; exact Calls.regrown_of (scale_b _ _ _ _)) | (go_at_call 18; exact Calls.regrown_of (example_b _)))))
              refine wpQuiet_nil ?_
              intro W hw'
              have B := below_regrown' hw'
              clear hw' k_M0 k_M5 k_M6 k_a0 k_a1 k_a2 k_a3
              replace BB := bon BB B
              replace M0 := mat_below B M0
              replace M5 := mat_below B M5
              replace M6 := mat_below B M6
              replace a0 := cell_below B a0
              replace a1 := cell_below B a1
              replace a2 := cell_below B a2
              replace a3 := cell_below B a3
              go_wp2_with fail
              go_ret
              exact ⟨rfl, BB⟩
    · skip
      go_wp2_with fail
      have B := box_below V29 #[.int .i64 ((fun _ => 0) 0), .int .i64 ((fun _ => 0) 1), .int .i64 ((fun _ => 0) 2), .int .i64 ((fun _ => 0) 3), .int .i64 ((fun _ => 0) 4), .int .i64 ((fun _ => 0) 5), .int .i64 ((fun _ => 0) 6), .int .i64 ((fun _ => 0) 7), .int .i64 ((fun _ => 0) 8), .int .i64 ((fun _ => 0) 9), .int .i64 ((fun _ => 0) 10), .int .i64 ((fun _ => 0) 11), .int .i64 ((fun _ => 0) 12), .int .i64 ((fun _ => 0) 13), .int .i64 ((fun _ => 0) 14), .int .i64 ((fun _ => 0) 15)] 23
      have E := mat_box V29 (fun _ => 0) 23
      have Y := mat_boxz V29 (fun _ => 0) 23
      have L6 : W.heap.size ≤ V29.heap.size := BC.size
      have D : s5 ≠ V29.heap.size := Nat.ne_of_lt (block_lt_of_cell (M5 0 (by omega)))
      refine ⟨Ahead.of (bon BC B), ?_⟩
      refine tree_letter (S := fun U => Below W.heap.size W U ∧ (∀ i, i < 16 → U.cell? ⟨w.heap.size, i, none⟩ = some (.int .i64 (m i))) ∧ U.cell? ⟨w.heap.size + 1, 0, none⟩ = some (.int .i64 x0) ∧ U.cell? ⟨w.heap.size + 1, 1, none⟩ = some (.int .i64 x1) ∧ U.cell? ⟨w.heap.size + 1, 2, none⟩ = some (.int .i64 x2) ∧ U.cell? ⟨w.heap.size + 1, 3, none⟩ = some (.int .i64 x3) ∧ (∀ i, i < 16 → U.cell? ⟨V29.heap.size, i, none⟩ = some (.int .i64 0)) ∧ (∀ i, i < 16 → U.frozen? ⟨V29.heap.size, i, none⟩ = false) ∧ (∀ i, i < 16 → U.cell? ⟨s5, i, none⟩ = some (.int .i64 0)) ∧ (∀ i, i < 16 → U.frozen? ⟨s5, i, none⟩ = false)) ?_ ⟨bon BC B, mat_below B M0, cell_below B a0, cell_below B a1, cell_below B a2, cell_below B a3, E, Y, mat_below B M5, matz_below B M5 Z5⟩
      clear BC M0 a0 a1 a2 a3 E Y B M5 Z5
      generalize V29.heap.size = s6 at *
      rintro V39 ⟨BC, M0, a0, a1, a2, a3, M6, Z6, M5, Z5⟩
      refine tree_one rfl ?_
      · skip
        go_wp2_with (go_at_call 23; refine (identity_b _).mono ?_; rintro _ V40 ⟨rfl, B⟩; replace BC := bon BC B; replace Z5 := matz_below B M5 Z5; replace Z6 := matz_below B M6 Z6; replace M0 := mat_below B M0; replace M5 := mat_below B M5; replace M6 := mat_below B M6; replace a0 := cell_below B a0; replace a1 := cell_below B a1; replace a2 := cell_below B a2; replace a3 := cell_below B a3; clear B)
        refine ⟨Ahead.of BC, ?_⟩
        refine tree_one rfl ?_
        · skip
          go_wp2_with (go_at_call 29; refine (limitedmat_b _ _).mono ?_; rintro _ V41 ⟨rfl, B⟩; replace BC := bon BC B; replace Z5 := matz_below B M5 Z5; replace Z6 := matz_below B M6 Z6; replace M0 := mat_below B M0; replace M5 := mat_below B M5; replace M6 := mat_below B M6; replace a0 := cell_below B a0; replace a1 := cell_below B a1; replace a2 := cell_below B a2; replace a3 := cell_below B a3; clear B)
          refine ⟨Ahead.of BC, ?_⟩
          refine tree_one rfl ?_
          · skip
            go_wp2_with (refine wpList_mstore (W := V41) rfl _ _ _ rfl idm rfl rfl (m0 := fun _ => 0) M5 Z5 BC L5 matT ?_; intro V42 BC1 E Y hc hf _; replace BC := BC1; clear M5 Z5 BC1; have M5 := E; have Z5 := Y; clear E Y; replace Z6 := matz_far hf Z6; replace M6 := mat_far hc (by omega) M6; replace M0 := mat_far hc (by omega) M0; replace a0 := (hc ⟨w.heap.size + 1, 0, none⟩ (by show w.heap.size + 1 ≠ s5; omega)).trans a0; replace a1 := (hc ⟨w.heap.size + 1, 1, none⟩ (by show w.heap.size + 1 ≠ s5; omega)).trans a1; replace a2 := (hc ⟨w.heap.size + 1, 2, none⟩ (by show w.heap.size + 1 ≠ s5; omega)).trans a2; replace a3 := (hc ⟨w.heap.size + 1, 3, none⟩ (by show w.heap.size + 1 ≠ s5; omega)).trans a3; clear hc hf; go_simp)
            refine ⟨Ahead.of BC, ?_⟩
            refine tree_one rfl ?_
            · skip
              go_wp2_with (refine wpList_mstore (W := V42) rfl _ _ _ rfl (limm m) rfl rfl (m0 := fun _ => 0) M6 Z6 BC L6 matT ?_; intro V43 BC1 E Y hc hf _; replace BC := BC1; clear M6 Z6 BC1; have M6 := E; have Z6 := Y; clear E Y; replace Z5 := matz_far hf Z5; replace M5 := mat_far hc (by omega) M5; replace M0 := mat_far hc (by omega) M0; replace a0 := (hc ⟨w.heap.size + 1, 0, none⟩ (by show w.heap.size + 1 ≠ s6; omega)).trans a0; replace a1 := (hc ⟨w.heap.size + 1, 1, none⟩ (by show w.heap.size + 1 ≠ s6; omega)).trans a1; replace a2 := (hc ⟨w.heap.size + 1, 2, none⟩ (by show w.heap.size + 1 ≠ s6; omega)).trans a2; replace a3 := (hc ⟨w.heap.size + 1, 3, none⟩ (by show w.heap.size + 1 ≠ s6; omega)).trans a3; clear hc hf; go_simp)
              refine ⟨Ahead.of BC, ?_⟩
              refine tree_nil ?_
              have BB := bon BW BC
              clear BC L5 L6 D HW Z5 Z6
              go_wp2_with fail
              have V0 : appv idm 0 x0 x1 x2 x3 = sat x0 := dotv_e0 _ _ _ _
              have V1 : appv idm 1 x0 x1 x2 x3 = sat x1 := dotv_e1 _ _ _ _
              have V2 : appv idm 2 x0 x1 x2 x3 = sat x2 := dotv_e2 _ _ _ _
              have V3 : appv idm 3 x0 x1 x2 x3 = sat x3 := dotv_e3 _ _ _ _
              have E1 := idm_mul m
              have E2 := mul_idm m
              have E3 : mats (trm 0 0 0) = mats idm := rfl
              have E4 : mats (scm 65536 65536 65536) = mats idm := rfl
              have k_M0 := mat_regrown M0
              have k_M5 := mat_regrown M5
              have k_M6 := mat_regrown M6
              have k_a0 := cell_regrown a0
              have k_a1 := cell_regrown a1
              have k_a2 := cell_regrown a2
              have k_a3 := cell_regrown a3
              refine wp_region_quiet_below (by kernel_rfl) (by kernel_rfl) ?_
              repeat (first | (go_big_quiet_want; refine quiet_mload _ _ rfl matT (fun W hW => mat_class M0 hW) rfl ?_; go_simp; go_big_quiet_on) | (go_big_quiet_want; refine quiet_mload _ _ rfl matT (fun W hW => mat_class M5 hW) rfl ?_; go_simp; go_big_quiet_on) | (go_big_quiet_want; refine quiet_mload _ _ rfl matT (fun W hW => mat_class M6 hW) rfl ?_; go_simp; go_big_quiet_on) | go_big_quiet_step ((first | (go_at_call 12; exact Calls.regrown_of (apply_b _ _ _ _ _ _)) | (go_at_call 30; exact Calls.regrown_of (limitedvec_b _ _ _ _ _)) | (go_at_call 14; exact Calls.regrown_of (mmul_b _ _ _)) | (go_at_call 25; exact Calls.regrown_of (translate_b _ _ _ _)) | (go_at_call 27; exact Calls.regrown_of (scale_b _ _ _ _)) | (go_at_call 18; exact Calls.regrown_of (example_b _)))) | quiet_step ((first | (go_at_call 12; exact Calls.regrown_of (apply_b _ _ _ _ _ _)) | (go_at_call 30; exact Calls.regrown_of (limitedvec_b _ _ _ _ _)) | (go_at_call 14; exact Calls.regrown_of (mmul_b _ _ _)) | (go_at_call 25; exact Calls.regrown_of (translate_b _ _ _ _)) | (go_at_call 27; exact Calls.regrown_of (scale_b _ _ _ _)) | (go_at_call 18; exact Calls.regrown_of (example_b _)))))
              refine wpQuiet_nil ?_
              intro W hw'
              have B := below_regrown' hw'
              clear hw' k_M0 k_M5 k_M6 k_a0 k_a1 k_a2 k_a3
              replace BB := bon BB B
              replace M0 := mat_below B M0
              replace M5 := mat_below B M5
              replace M6 := mat_below B M6
              replace a0 := cell_below B a0
              replace a1 := cell_below B a1
              replace a2 := cell_below B a2
              replace a3 := cell_below B a3
              go_wp2_with fail
              go_ret
              exact ⟨rfl, BB⟩
  · skip
    go_wp2_with fail
    have B := box_below V0 #[.int .i64 ((fun _ => 0) 0), .int .i64 ((fun _ => 0) 1), .int .i64 ((fun _ => 0) 2), .int .i64 ((fun _ => 0) 3), .int .i64 ((fun _ => 0) 4), .int .i64 ((fun _ => 0) 5), .int .i64 ((fun _ => 0) 6), .int .i64 ((fun _ => 0) 7), .int .i64 ((fun _ => 0) 8), .int .i64 ((fun _ => 0) 9), .int .i64 ((fun _ => 0) 10), .int .i64 ((fun _ => 0) 11), .int .i64 ((fun _ => 0) 12), .int .i64 ((fun _ => 0) 13), .int .i64 ((fun _ => 0) 14), .int .i64 ((fun _ => 0) 15)] 23
    have E := mat_box V0 (fun _ => 0) 23
    have Y := mat_boxz V0 (fun _ => 0) 23
    have L6 : W.heap.size ≤ V0.heap.size := BC.size
    refine ⟨Ahead.of (bon BC B), ?_⟩
    refine tree_letter (S := fun U => Below W.heap.size W U ∧ (∀ i, i < 16 → U.cell? ⟨w.heap.size, i, none⟩ = some (.int .i64 (m i))) ∧ U.cell? ⟨w.heap.size + 1, 0, none⟩ = some (.int .i64 x0) ∧ U.cell? ⟨w.heap.size + 1, 1, none⟩ = some (.int .i64 x1) ∧ U.cell? ⟨w.heap.size + 1, 2, none⟩ = some (.int .i64 x2) ∧ U.cell? ⟨w.heap.size + 1, 3, none⟩ = some (.int .i64 x3) ∧ (∀ i, i < 16 → U.cell? ⟨V0.heap.size, i, none⟩ = some (.int .i64 0)) ∧ (∀ i, i < 16 → U.frozen? ⟨V0.heap.size, i, none⟩ = false)) ?_ ⟨bon BC B, mat_below B M0, cell_below B a0, cell_below B a1, cell_below B a2, cell_below B a3, E, Y⟩
    clear BC M0 a0 a1 a2 a3 E Y B
    generalize V0.heap.size = s6 at *
    rintro V44 ⟨BC, M0, a0, a1, a2, a3, M6, Z6⟩
    refine tree_two rfl rfl ?_ ?_
    · skip
      go_wp2_with (go_at_call 23; refine (identity_b _).mono ?_; rintro _ V45 ⟨rfl, B⟩; replace BC := bon BC B; replace Z6 := matz_below B M6 Z6; replace M0 := mat_below B M0; replace M6 := mat_below B M6; replace a0 := cell_below B a0; replace a1 := cell_below B a1; replace a2 := cell_below B a2; replace a3 := cell_below B a3; clear B)
      refine ⟨Ahead.of BC, ?_⟩
      refine tree_two rfl rfl ?_ ?_
      · skip
        go_wp2_with (go_at_call 29; refine (limitedmat_b _ _).mono ?_; rintro _ V46 ⟨rfl, B⟩; replace BC := bon BC B; replace Z6 := matz_below B M6 Z6; replace M0 := mat_below B M0; replace M6 := mat_below B M6; replace a0 := cell_below B a0; replace a1 := cell_below B a1; replace a2 := cell_below B a2; replace a3 := cell_below B a3; clear B)
        refine ⟨Ahead.of BC, ?_⟩
        refine tree_one rfl ?_
        · skip
          go_wp2_with fail
          have B := box_below V46 #[.int .i64 ((fun _ => 0) 0), .int .i64 ((fun _ => 0) 1), .int .i64 ((fun _ => 0) 2), .int .i64 ((fun _ => 0) 3), .int .i64 ((fun _ => 0) 4), .int .i64 ((fun _ => 0) 5), .int .i64 ((fun _ => 0) 6), .int .i64 ((fun _ => 0) 7), .int .i64 ((fun _ => 0) 8), .int .i64 ((fun _ => 0) 9), .int .i64 ((fun _ => 0) 10), .int .i64 ((fun _ => 0) 11), .int .i64 ((fun _ => 0) 12), .int .i64 ((fun _ => 0) 13), .int .i64 ((fun _ => 0) 14), .int .i64 ((fun _ => 0) 15)] 23
          have E := mat_box V46 (fun _ => 0) 23
          have Y := mat_boxz V46 (fun _ => 0) 23
          have L5 : W.heap.size ≤ V46.heap.size := BC.size
          have D : s6 ≠ V46.heap.size := Nat.ne_of_lt (block_lt_of_cell (M6 0 (by omega)))
          refine ⟨Ahead.of (bon BC B), ?_⟩
          refine tree_letter (S := fun U => Below W.heap.size W U ∧ (∀ i, i < 16 → U.cell? ⟨w.heap.size, i, none⟩ = some (.int .i64 (m i))) ∧ U.cell? ⟨w.heap.size + 1, 0, none⟩ = some (.int .i64 x0) ∧ U.cell? ⟨w.heap.size + 1, 1, none⟩ = some (.int .i64 x1) ∧ U.cell? ⟨w.heap.size + 1, 2, none⟩ = some (.int .i64 x2) ∧ U.cell? ⟨w.heap.size + 1, 3, none⟩ = some (.int .i64 x3) ∧ (∀ i, i < 16 → U.cell? ⟨V46.heap.size, i, none⟩ = some (.int .i64 0)) ∧ (∀ i, i < 16 → U.frozen? ⟨V46.heap.size, i, none⟩ = false) ∧ (∀ i, i < 16 → U.cell? ⟨s6, i, none⟩ = some (.int .i64 0)) ∧ (∀ i, i < 16 → U.frozen? ⟨s6, i, none⟩ = false)) ?_ ⟨bon BC B, mat_below B M0, cell_below B a0, cell_below B a1, cell_below B a2, cell_below B a3, E, Y, mat_below B M6, matz_below B M6 Z6⟩
          clear BC M0 a0 a1 a2 a3 E Y B M6 Z6
          generalize V46.heap.size = s5 at *
          rintro V47 ⟨BC, M0, a0, a1, a2, a3, M5, Z5, M6, Z6⟩
          refine tree_one rfl ?_
          · skip
            go_wp2_with (refine wpList_mstore (W := V47) rfl _ _ _ rfl idm rfl rfl (m0 := fun _ => 0) M5 Z5 BC L5 matT ?_; intro V48 BC1 E Y hc hf _; replace BC := BC1; clear M5 Z5 BC1; have M5 := E; have Z5 := Y; clear E Y; replace Z6 := matz_far hf Z6; replace M6 := mat_far hc (by omega) M6; replace M0 := mat_far hc (by omega) M0; replace a0 := (hc ⟨w.heap.size + 1, 0, none⟩ (by show w.heap.size + 1 ≠ s5; omega)).trans a0; replace a1 := (hc ⟨w.heap.size + 1, 1, none⟩ (by show w.heap.size + 1 ≠ s5; omega)).trans a1; replace a2 := (hc ⟨w.heap.size + 1, 2, none⟩ (by show w.heap.size + 1 ≠ s5; omega)).trans a2; replace a3 := (hc ⟨w.heap.size + 1, 3, none⟩ (by show w.heap.size + 1 ≠ s5; omega)).trans a3; clear hc hf; go_simp)
            refine ⟨Ahead.of BC, ?_⟩
            refine tree_one rfl ?_
            · skip
              go_wp2_with (refine wpList_mstore (W := V48) rfl _ _ _ rfl (limm m) rfl rfl (m0 := fun _ => 0) M6 Z6 BC L6 matT ?_; intro V49 BC1 E Y hc hf _; replace BC := BC1; clear M6 Z6 BC1; have M6 := E; have Z6 := Y; clear E Y; replace Z5 := matz_far hf Z5; replace M5 := mat_far hc (by omega) M5; replace M0 := mat_far hc (by omega) M0; replace a0 := (hc ⟨w.heap.size + 1, 0, none⟩ (by show w.heap.size + 1 ≠ s6; omega)).trans a0; replace a1 := (hc ⟨w.heap.size + 1, 1, none⟩ (by show w.heap.size + 1 ≠ s6; omega)).trans a1; replace a2 := (hc ⟨w.heap.size + 1, 2, none⟩ (by show w.heap.size + 1 ≠ s6; omega)).trans a2; replace a3 := (hc ⟨w.heap.size + 1, 3, none⟩ (by show w.heap.size + 1 ≠ s6; omega)).trans a3; clear hc hf; go_simp)
              refine ⟨Ahead.of BC, ?_⟩
              refine tree_nil ?_
              have BB := bon BW BC
              clear BC L5 L6 D HW Z5 Z6
              go_wp2_with fail
              have V0 : appv idm 0 x0 x1 x2 x3 = sat x0 := dotv_e0 _ _ _ _
              have V1 : appv idm 1 x0 x1 x2 x3 = sat x1 := dotv_e1 _ _ _ _
              have V2 : appv idm 2 x0 x1 x2 x3 = sat x2 := dotv_e2 _ _ _ _
              have V3 : appv idm 3 x0 x1 x2 x3 = sat x3 := dotv_e3 _ _ _ _
              have E1 := idm_mul m
              have E2 := mul_idm m
              have E3 : mats (trm 0 0 0) = mats idm := rfl
              have E4 : mats (scm 65536 65536 65536) = mats idm := rfl
              have k_M0 := mat_regrown M0
              have k_M5 := mat_regrown M5
              have k_M6 := mat_regrown M6
              have k_a0 := cell_regrown a0
              have k_a1 := cell_regrown a1
              have k_a2 := cell_regrown a2
              have k_a3 := cell_regrown a3
              refine wp_region_quiet_below (by kernel_rfl) (by kernel_rfl) ?_
              repeat (first | (go_big_quiet_want; refine quiet_mload _ _ rfl matT (fun W hW => mat_class M0 hW) rfl ?_; go_simp; go_big_quiet_on) | (go_big_quiet_want; refine quiet_mload _ _ rfl matT (fun W hW => mat_class M5 hW) rfl ?_; go_simp; go_big_quiet_on) | (go_big_quiet_want; refine quiet_mload _ _ rfl matT (fun W hW => mat_class M6 hW) rfl ?_; go_simp; go_big_quiet_on) | go_big_quiet_step ((first | (go_at_call 12; exact Calls.regrown_of (apply_b _ _ _ _ _ _)) | (go_at_call 30; exact Calls.regrown_of (limitedvec_b _ _ _ _ _)) | (go_at_call 14; exact Calls.regrown_of (mmul_b _ _ _)) | (go_at_call 25; exact Calls.regrown_of (translate_b _ _ _ _)) | (go_at_call 27; exact Calls.regrown_of (scale_b _ _ _ _)) | (go_at_call 18; exact Calls.regrown_of (example_b _)))) | quiet_step ((first | (go_at_call 12; exact Calls.regrown_of (apply_b _ _ _ _ _ _)) | (go_at_call 30; exact Calls.regrown_of (limitedvec_b _ _ _ _ _)) | (go_at_call 14; exact Calls.regrown_of (mmul_b _ _ _)) | (go_at_call 25; exact Calls.regrown_of (translate_b _ _ _ _)) | (go_at_call 27; exact Calls.regrown_of (scale_b _ _ _ _)) | (go_at_call 18; exact Calls.regrown_of (example_b _)))))
              refine wpQuiet_nil ?_
              intro W hw'
              have B := below_regrown' hw'
              clear hw' k_M0 k_M5 k_M6 k_a0 k_a1 k_a2 k_a3
              replace BB := bon BB B
              replace M0 := mat_below B M0
              replace M5 := mat_below B M5
              replace M6 := mat_below B M6
              replace a0 := cell_below B a0
              replace a1 := cell_below B a1
              replace a2 := cell_below B a2
              replace a3 := cell_below B a3
              go_wp2_with fail
              go_ret
              exact ⟨rfl, BB⟩
      · skip
        go_wp2_with fail
        have B := box_below V45 #[.int .i64 ((fun _ => 0) 0), .int .i64 ((fun _ => 0) 1), .int .i64 ((fun _ => 0) 2), .int .i64 ((fun _ => 0) 3), .int .i64 ((fun _ => 0) 4), .int .i64 ((fun _ => 0) 5), .int .i64 ((fun _ => 0) 6), .int .i64 ((fun _ => 0) 7), .int .i64 ((fun _ => 0) 8), .int .i64 ((fun _ => 0) 9), .int .i64 ((fun _ => 0) 10), .int .i64 ((fun _ => 0) 11), .int .i64 ((fun _ => 0) 12), .int .i64 ((fun _ => 0) 13), .int .i64 ((fun _ => 0) 14), .int .i64 ((fun _ => 0) 15)] 23
        have E := mat_box V45 (fun _ => 0) 23
        have Y := mat_boxz V45 (fun _ => 0) 23
        have L5 : W.heap.size ≤ V45.heap.size := BC.size
        have D : s6 ≠ V45.heap.size := Nat.ne_of_lt (block_lt_of_cell (M6 0 (by omega)))
        refine ⟨Ahead.of (bon BC B), ?_⟩
        refine tree_letter (S := fun U => Below W.heap.size W U ∧ (∀ i, i < 16 → U.cell? ⟨w.heap.size, i, none⟩ = some (.int .i64 (m i))) ∧ U.cell? ⟨w.heap.size + 1, 0, none⟩ = some (.int .i64 x0) ∧ U.cell? ⟨w.heap.size + 1, 1, none⟩ = some (.int .i64 x1) ∧ U.cell? ⟨w.heap.size + 1, 2, none⟩ = some (.int .i64 x2) ∧ U.cell? ⟨w.heap.size + 1, 3, none⟩ = some (.int .i64 x3) ∧ (∀ i, i < 16 → U.cell? ⟨V45.heap.size, i, none⟩ = some (.int .i64 0)) ∧ (∀ i, i < 16 → U.frozen? ⟨V45.heap.size, i, none⟩ = false) ∧ (∀ i, i < 16 → U.cell? ⟨s6, i, none⟩ = some (.int .i64 0)) ∧ (∀ i, i < 16 → U.frozen? ⟨s6, i, none⟩ = false)) ?_ ⟨bon BC B, mat_below B M0, cell_below B a0, cell_below B a1, cell_below B a2, cell_below B a3, E, Y, mat_below B M6, matz_below B M6 Z6⟩
        clear BC M0 a0 a1 a2 a3 E Y B M6 Z6
        generalize V45.heap.size = s5 at *
        rintro V50 ⟨BC, M0, a0, a1, a2, a3, M5, Z5, M6, Z6⟩
        refine tree_one rfl ?_
        · skip
          go_wp2_with (go_at_call 29; refine (limitedmat_b _ _).mono ?_; rintro _ V51 ⟨rfl, B⟩; replace BC := bon BC B; replace Z5 := matz_below B M5 Z5; replace Z6 := matz_below B M6 Z6; replace M0 := mat_below B M0; replace M5 := mat_below B M5; replace M6 := mat_below B M6; replace a0 := cell_below B a0; replace a1 := cell_below B a1; replace a2 := cell_below B a2; replace a3 := cell_below B a3; clear B)
          refine ⟨Ahead.of BC, ?_⟩
          refine tree_one rfl ?_
          · skip
            go_wp2_with (refine wpList_mstore (W := V51) rfl _ _ _ rfl idm rfl rfl (m0 := fun _ => 0) M5 Z5 BC L5 matT ?_; intro V52 BC1 E Y hc hf _; replace BC := BC1; clear M5 Z5 BC1; have M5 := E; have Z5 := Y; clear E Y; replace Z6 := matz_far hf Z6; replace M6 := mat_far hc (by omega) M6; replace M0 := mat_far hc (by omega) M0; replace a0 := (hc ⟨w.heap.size + 1, 0, none⟩ (by show w.heap.size + 1 ≠ s5; omega)).trans a0; replace a1 := (hc ⟨w.heap.size + 1, 1, none⟩ (by show w.heap.size + 1 ≠ s5; omega)).trans a1; replace a2 := (hc ⟨w.heap.size + 1, 2, none⟩ (by show w.heap.size + 1 ≠ s5; omega)).trans a2; replace a3 := (hc ⟨w.heap.size + 1, 3, none⟩ (by show w.heap.size + 1 ≠ s5; omega)).trans a3; clear hc hf; go_simp)
            refine ⟨Ahead.of BC, ?_⟩
            refine tree_one rfl ?_
            · skip
              go_wp2_with (refine wpList_mstore (W := V52) rfl _ _ _ rfl (limm m) rfl rfl (m0 := fun _ => 0) M6 Z6 BC L6 matT ?_; intro V53 BC1 E Y hc hf _; replace BC := BC1; clear M6 Z6 BC1; have M6 := E; have Z6 := Y; clear E Y; replace Z5 := matz_far hf Z5; replace M5 := mat_far hc (by omega) M5; replace M0 := mat_far hc (by omega) M0; replace a0 := (hc ⟨w.heap.size + 1, 0, none⟩ (by show w.heap.size + 1 ≠ s6; omega)).trans a0; replace a1 := (hc ⟨w.heap.size + 1, 1, none⟩ (by show w.heap.size + 1 ≠ s6; omega)).trans a1; replace a2 := (hc ⟨w.heap.size + 1, 2, none⟩ (by show w.heap.size + 1 ≠ s6; omega)).trans a2; replace a3 := (hc ⟨w.heap.size + 1, 3, none⟩ (by show w.heap.size + 1 ≠ s6; omega)).trans a3; clear hc hf; go_simp)
              refine ⟨Ahead.of BC, ?_⟩
              refine tree_nil ?_
              have BB := bon BW BC
              clear BC L5 L6 D HW Z5 Z6
              go_wp2_with fail
              have V0 : appv idm 0 x0 x1 x2 x3 = sat x0 := dotv_e0 _ _ _ _
              have V1 : appv idm 1 x0 x1 x2 x3 = sat x1 := dotv_e1 _ _ _ _
              have V2 : appv idm 2 x0 x1 x2 x3 = sat x2 := dotv_e2 _ _ _ _
              have V3 : appv idm 3 x0 x1 x2 x3 = sat x3 := dotv_e3 _ _ _ _
              have E1 := idm_mul m
              have E2 := mul_idm m
              have E3 : mats (trm 0 0 0) = mats idm := rfl
              have E4 : mats (scm 65536 65536 65536) = mats idm := rfl
              have k_M0 := mat_regrown M0
              have k_M5 := mat_regrown M5
              have k_M6 := mat_regrown M6
              have k_a0 := cell_regrown a0
              have k_a1 := cell_regrown a1
              have k_a2 := cell_regrown a2
              have k_a3 := cell_regrown a3
              refine wp_region_quiet_below (by kernel_rfl) (by kernel_rfl) ?_
              repeat (first | (go_big_quiet_want; refine quiet_mload _ _ rfl matT (fun W hW => mat_class M0 hW) rfl ?_; go_simp; go_big_quiet_on) | (go_big_quiet_want; refine quiet_mload _ _ rfl matT (fun W hW => mat_class M5 hW) rfl ?_; go_simp; go_big_quiet_on) | (go_big_quiet_want; refine quiet_mload _ _ rfl matT (fun W hW => mat_class M6 hW) rfl ?_; go_simp; go_big_quiet_on) | go_big_quiet_step ((first | (go_at_call 12; exact Calls.regrown_of (apply_b _ _ _ _ _ _)) | (go_at_call 30; exact Calls.regrown_of (limitedvec_b _ _ _ _ _)) | (go_at_call 14; exact Calls.regrown_of (mmul_b _ _ _)) | (go_at_call 25; exact Calls.regrown_of (translate_b _ _ _ _)) | (go_at_call 27; exact Calls.regrown_of (scale_b _ _ _ _)) | (go_at_call 18; exact Calls.regrown_of (example_b _)))) | quiet_step ((first | (go_at_call 12; exact Calls.regrown_of (apply_b _ _ _ _ _ _)) | (go_at_call 30; exact Calls.regrown_of (limitedvec_b _ _ _ _ _)) | (go_at_call 14; exact Calls.regrown_of (mmul_b _ _ _)) | (go_at_call 25; exact Calls.regrown_of (translate_b _ _ _ _)) | (go_at_call 27; exact Calls.regrown_of (scale_b _ _ _ _)) | (go_at_call 18; exact Calls.regrown_of (example_b _)))))
              refine wpQuiet_nil ?_
              intro W hw'
              have B := below_regrown' hw'
              clear hw' k_M0 k_M5 k_M6 k_a0 k_a1 k_a2 k_a3
              replace BB := bon BB B
              replace M0 := mat_below B M0
              replace M5 := mat_below B M5
              replace M6 := mat_below B M6
              replace a0 := cell_below B a0
              replace a1 := cell_below B a1
              replace a2 := cell_below B a2
              replace a3 := cell_below B a3
              go_wp2_with fail
              go_ret
              exact ⟨rfl, BB⟩
    · skip
      go_wp2_with fail
      have B := box_below V44 #[.int .i64 ((fun _ => 0) 0), .int .i64 ((fun _ => 0) 1), .int .i64 ((fun _ => 0) 2), .int .i64 ((fun _ => 0) 3), .int .i64 ((fun _ => 0) 4), .int .i64 ((fun _ => 0) 5), .int .i64 ((fun _ => 0) 6), .int .i64 ((fun _ => 0) 7), .int .i64 ((fun _ => 0) 8), .int .i64 ((fun _ => 0) 9), .int .i64 ((fun _ => 0) 10), .int .i64 ((fun _ => 0) 11), .int .i64 ((fun _ => 0) 12), .int .i64 ((fun _ => 0) 13), .int .i64 ((fun _ => 0) 14), .int .i64 ((fun _ => 0) 15)] 23
      have E := mat_box V44 (fun _ => 0) 23
      have Y := mat_boxz V44 (fun _ => 0) 23
      have L5 : W.heap.size ≤ V44.heap.size := BC.size
      have D : s6 ≠ V44.heap.size := Nat.ne_of_lt (block_lt_of_cell (M6 0 (by omega)))
      refine ⟨Ahead.of (bon BC B), ?_⟩
      refine tree_letter (S := fun U => Below W.heap.size W U ∧ (∀ i, i < 16 → U.cell? ⟨w.heap.size, i, none⟩ = some (.int .i64 (m i))) ∧ U.cell? ⟨w.heap.size + 1, 0, none⟩ = some (.int .i64 x0) ∧ U.cell? ⟨w.heap.size + 1, 1, none⟩ = some (.int .i64 x1) ∧ U.cell? ⟨w.heap.size + 1, 2, none⟩ = some (.int .i64 x2) ∧ U.cell? ⟨w.heap.size + 1, 3, none⟩ = some (.int .i64 x3) ∧ (∀ i, i < 16 → U.cell? ⟨V44.heap.size, i, none⟩ = some (.int .i64 0)) ∧ (∀ i, i < 16 → U.frozen? ⟨V44.heap.size, i, none⟩ = false) ∧ (∀ i, i < 16 → U.cell? ⟨s6, i, none⟩ = some (.int .i64 0)) ∧ (∀ i, i < 16 → U.frozen? ⟨s6, i, none⟩ = false)) ?_ ⟨bon BC B, mat_below B M0, cell_below B a0, cell_below B a1, cell_below B a2, cell_below B a3, E, Y, mat_below B M6, matz_below B M6 Z6⟩
      clear BC M0 a0 a1 a2 a3 E Y B M6 Z6
      generalize V44.heap.size = s5 at *
      rintro V54 ⟨BC, M0, a0, a1, a2, a3, M5, Z5, M6, Z6⟩
      refine tree_one rfl ?_
      · skip
        go_wp2_with (go_at_call 23; refine (identity_b _).mono ?_; rintro _ V55 ⟨rfl, B⟩; replace BC := bon BC B; replace Z5 := matz_below B M5 Z5; replace Z6 := matz_below B M6 Z6; replace M0 := mat_below B M0; replace M5 := mat_below B M5; replace M6 := mat_below B M6; replace a0 := cell_below B a0; replace a1 := cell_below B a1; replace a2 := cell_below B a2; replace a3 := cell_below B a3; clear B)
        refine ⟨Ahead.of BC, ?_⟩
        refine tree_one rfl ?_
        · skip
          go_wp2_with (go_at_call 29; refine (limitedmat_b _ _).mono ?_; rintro _ V56 ⟨rfl, B⟩; replace BC := bon BC B; replace Z5 := matz_below B M5 Z5; replace Z6 := matz_below B M6 Z6; replace M0 := mat_below B M0; replace M5 := mat_below B M5; replace M6 := mat_below B M6; replace a0 := cell_below B a0; replace a1 := cell_below B a1; replace a2 := cell_below B a2; replace a3 := cell_below B a3; clear B)
          refine ⟨Ahead.of BC, ?_⟩
          refine tree_one rfl ?_
          · skip
            go_wp2_with (refine wpList_mstore (W := V56) rfl _ _ _ rfl idm rfl rfl (m0 := fun _ => 0) M5 Z5 BC L5 matT ?_; intro V57 BC1 E Y hc hf _; replace BC := BC1; clear M5 Z5 BC1; have M5 := E; have Z5 := Y; clear E Y; replace Z6 := matz_far hf Z6; replace M6 := mat_far hc (by omega) M6; replace M0 := mat_far hc (by omega) M0; replace a0 := (hc ⟨w.heap.size + 1, 0, none⟩ (by show w.heap.size + 1 ≠ s5; omega)).trans a0; replace a1 := (hc ⟨w.heap.size + 1, 1, none⟩ (by show w.heap.size + 1 ≠ s5; omega)).trans a1; replace a2 := (hc ⟨w.heap.size + 1, 2, none⟩ (by show w.heap.size + 1 ≠ s5; omega)).trans a2; replace a3 := (hc ⟨w.heap.size + 1, 3, none⟩ (by show w.heap.size + 1 ≠ s5; omega)).trans a3; clear hc hf; go_simp)
            refine ⟨Ahead.of BC, ?_⟩
            refine tree_one rfl ?_
            · skip
              go_wp2_with (refine wpList_mstore (W := V57) rfl _ _ _ rfl (limm m) rfl rfl (m0 := fun _ => 0) M6 Z6 BC L6 matT ?_; intro V58 BC1 E Y hc hf _; replace BC := BC1; clear M6 Z6 BC1; have M6 := E; have Z6 := Y; clear E Y; replace Z5 := matz_far hf Z5; replace M5 := mat_far hc (by omega) M5; replace M0 := mat_far hc (by omega) M0; replace a0 := (hc ⟨w.heap.size + 1, 0, none⟩ (by show w.heap.size + 1 ≠ s6; omega)).trans a0; replace a1 := (hc ⟨w.heap.size + 1, 1, none⟩ (by show w.heap.size + 1 ≠ s6; omega)).trans a1; replace a2 := (hc ⟨w.heap.size + 1, 2, none⟩ (by show w.heap.size + 1 ≠ s6; omega)).trans a2; replace a3 := (hc ⟨w.heap.size + 1, 3, none⟩ (by show w.heap.size + 1 ≠ s6; omega)).trans a3; clear hc hf; go_simp)
              refine ⟨Ahead.of BC, ?_⟩
              refine tree_nil ?_
              have BB := bon BW BC
              clear BC L5 L6 D HW Z5 Z6
              go_wp2_with fail
              have V0 : appv idm 0 x0 x1 x2 x3 = sat x0 := dotv_e0 _ _ _ _
              have V1 : appv idm 1 x0 x1 x2 x3 = sat x1 := dotv_e1 _ _ _ _
              have V2 : appv idm 2 x0 x1 x2 x3 = sat x2 := dotv_e2 _ _ _ _
              have V3 : appv idm 3 x0 x1 x2 x3 = sat x3 := dotv_e3 _ _ _ _
              have E1 := idm_mul m
              have E2 := mul_idm m
              have E3 : mats (trm 0 0 0) = mats idm := rfl
              have E4 : mats (scm 65536 65536 65536) = mats idm := rfl
              have k_M0 := mat_regrown M0
              have k_M5 := mat_regrown M5
              have k_M6 := mat_regrown M6
              have k_a0 := cell_regrown a0
              have k_a1 := cell_regrown a1
              have k_a2 := cell_regrown a2
              have k_a3 := cell_regrown a3
              refine wp_region_quiet_below (by kernel_rfl) (by kernel_rfl) ?_
              repeat (first | (go_big_quiet_want; refine quiet_mload _ _ rfl matT (fun W hW => mat_class M0 hW) rfl ?_; go_simp; go_big_quiet_on) | (go_big_quiet_want; refine quiet_mload _ _ rfl matT (fun W hW => mat_class M5 hW) rfl ?_; go_simp; go_big_quiet_on) | (go_big_quiet_want; refine quiet_mload _ _ rfl matT (fun W hW => mat_class M6 hW) rfl ?_; go_simp; go_big_quiet_on) | go_big_quiet_step ((first | (go_at_call 12; exact Calls.regrown_of (apply_b _ _ _ _ _ _)) | (go_at_call 30; exact Calls.regrown_of (limitedvec_b _ _ _ _ _)) | (go_at_call 14; exact Calls.regrown_of (mmul_b _ _ _)) | (go_at_call 25; exact Calls.regrown_of (translate_b _ _ _ _)) | (go_at_call 27; exact Calls.regrown_of (scale_b _ _ _ _)) | (go_at_call 18; exact Calls.regrown_of (example_b _)))) | quiet_step ((first | (go_at_call 12; exact Calls.regrown_of (apply_b _ _ _ _ _ _)) | (go_at_call 30; exact Calls.regrown_of (limitedvec_b _ _ _ _ _)) | (go_at_call 14; exact Calls.regrown_of (mmul_b _ _ _)) | (go_at_call 25; exact Calls.regrown_of (translate_b _ _ _ _)) | (go_at_call 27; exact Calls.regrown_of (scale_b _ _ _ _)) | (go_at_call 18; exact Calls.regrown_of (example_b _)))))
              refine wpQuiet_nil ?_
              intro W hw'
              have B := below_regrown' hw'
              clear hw' k_M0 k_M5 k_M6 k_a0 k_a1 k_a2 k_a3
              replace BB := bon BB B
              replace M0 := mat_below B M0
              replace M5 := mat_below B M5
              replace M6 := mat_below B M6
              replace a0 := cell_below B a0
              replace a1 := cell_below B a1
              replace a2 := cell_below B a2
              replace a3 := cell_below B a3
              go_wp2_with fail
              go_ret
              exact ⟨rfl, BB⟩

end Go.Proofs.Ytlchecnencbamaa
