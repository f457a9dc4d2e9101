/- What Row, element and column return; Transpose of the reference. -/
import Derived.Test.YtlchecnencbamaaM1
import Derived.Test.YtlchecnencbamaaVOf
namespace Go.Proofs.Ytlchecnencbamaa
open Go.RowKit Go.Sort

/-- Component c of row r (0 where there is no such row); component k of column c. -/
def rowv (m : Nat → Int) (r : Int) (c : Nat) : Int := if r = 0 then m c else if r = 1 then m (4 + c) else if r = 2 then m (8 + c) else if r = 3 then m (12 + c) else 0
def colv (m : Nat → Int) (c : Int) (k : Nat) : Int := if c = 0 then m (4 * k) else if c = 1 then m (4 * k + 1) else if c = 2 then m (4 * k + 2) else m (4 * k + 3)

theorem four (i : Int) (h : 0 ≤ i ∧ i < 4) : i = 0 ∨ i = 1 ∨ i = 2 ∨ i = 3 := by omega

theorem argsE (w : World) (m : Nat → Int) (t : TypeId) :
    Below w.heap.size w (w.alloc (.cells (mats m) t)) ∧
    (∀ i, i < 16 → (w.alloc (.cells (mats m) t)).cell? ⟨w.heap.size, i, none⟩ = some (.int .i64 (m i))) := by
  have BB : Below w.heap.size w w := Below.refl _ _
  have hsz0 : w.heap.size = w.heap.size := by simp
  obtain ⟨B, BB⟩ := box_on BB (mats m) t
  have M0 := mat_box w m t
  have Z0 := mat_boxz w m t
  rw [hsz0] at M0 Z0
  exact ⟨BB, M0⟩

theorem argsR (w : World) (m : Nat → Int) (t u : TypeId) :
    Below w.heap.size w ((w.alloc (.cells (mats m) t)).alloc (.cells #[.int .i64 0, .int .i64 0, .int .i64 0, .int .i64 0] u)) ∧
    (∀ i, i < 16 → ((w.alloc (.cells (mats m) t)).alloc (.cells #[.int .i64 0, .int .i64 0, .int .i64 0, .int .i64 0] u)).cell? ⟨w.heap.size, i, none⟩ = some (.int .i64 (m i))) ∧
    ((w.alloc (.cells (mats m) t)).alloc (.cells #[.int .i64 0, .int .i64 0, .int .i64 0, .int .i64 0] u)).cell? ⟨w.heap.size + 1, 0, none⟩ = some (.int .i64 0) ∧
    ((w.alloc (.cells (mats m) t)).alloc (.cells #[.int .i64 0, .int .i64 0, .int .i64 0, .int .i64 0] u)).cell? ⟨w.heap.size + 1, 1, none⟩ = some (.int .i64 0) ∧
    ((w.alloc (.cells (mats m) t)).alloc (.cells #[.int .i64 0, .int .i64 0, .int .i64 0, .int .i64 0] u)).cell? ⟨w.heap.size + 1, 2, none⟩ = some (.int .i64 0) ∧
    ((w.alloc (.cells (mats m) t)).alloc (.cells #[.int .i64 0, .int .i64 0, .int .i64 0, .int .i64 0] u)).cell? ⟨w.heap.size + 1, 3, none⟩ = some (.int .i64 0) ∧
    ((w.alloc (.cells (mats m) t)).alloc (.cells #[.int .i64 0, .int .i64 0, .int .i64 0, .int .i64 0] u)).frozen? ⟨w.heap.size + 1, 0, none⟩ = false ∧
    ((w.alloc (.cells (mats m) t)).alloc (.cells #[.int .i64 0, .int .i64 0, .int .i64 0, .int .i64 0] u)).frozen? ⟨w.heap.size + 1, 1, none⟩ = false ∧
    ((w.alloc (.cells (mats m) t)).alloc (.cells #[.int .i64 0, .int .i64 0, .int .i64 0, .int .i64 0] u)).frozen? ⟨w.heap.size + 1, 2, none⟩ = false ∧
    ((w.alloc (.cells (mats m) t)).alloc (.cells #[.int .i64 0, .int .i64 0, .int .i64 0, .int .i64 0] u)).frozen? ⟨w.heap.size + 1, 3, none⟩ = false := by
  have BB : Below w.heap.size w w := Below.refl _ _
  have hsz0 : w.heap.size = w.heap.size := by simp
  obtain ⟨B, BB⟩ := box_on BB (mats m) t
  have M0 := mat_box w m t
  have Z0 := mat_boxz w m t
  rw [hsz0] at M0 Z0
  have hsz1 : (w.alloc (.cells (mats m) t)).heap.size = w.heap.size + 1 := by simp
  obtain ⟨B, BB⟩ := box_on BB #[.int .i64 0, .int .i64 0, .int .i64 0, .int .i64 0] u
  replace Z0 := matz_below B M0 Z0
  replace M0 := mat_below B M0
  have p1_0 := box_cell (w.alloc (.cells (mats m) t)) #[.int .i64 0, .int .i64 0, .int .i64 0, .int .i64 0] u 0 _ rfl
  have p1_1 := box_cell (w.alloc (.cells (mats m) t)) #[.int .i64 0, .int .i64 0, .int .i64 0, .int .i64 0] u 1 _ rfl
  have p1_2 := box_cell (w.alloc (.cells (mats m) t)) #[.int .i64 0, .int .i64 0, .int .i64 0, .int .i64 0] u 2 _ rfl
  have p1_3 := box_cell (w.alloc (.cells (mats m) t)) #[.int .i64 0, .int .i64 0, .int .i64 0, .int .i64 0] u 3 _ rfl
  have f1_0 := box_frozen (w.alloc (.cells (mats m) t)) #[.int .i64 0, .int .i64 0, .int .i64 0, .int .i64 0] u 0
  have f1_1 := box_frozen (w.alloc (.cells (mats m) t)) #[.int .i64 0, .int .i64 0, .int .i64 0, .int .i64 0] u 1
  have f1_2 := box_frozen (w.alloc (.cells (mats m) t)) #[.int .i64 0, .int .i64 0, .int .i64 0, .int .i64 0] u 2
  have f1_3 := box_frozen (w.alloc (.cells (mats m) t)) #[.int .i64 0, .int .i64 0, .int .i64 0, .int .i64 0] u 3
  rw [hsz1] at p1_0 p1_1 p1_2 p1_3 f1_0 f1_1 f1_2 f1_3
  exact ⟨BB, M0, p1_0, p1_1, p1_2, p1_3, f1_0, f1_1, f1_2, f1_3⟩

set_option maxRecDepth 100000 in
set_option maxHeartbeats 4000000 in
theorem relement_b (m : Nat → Int) (r c : Int) (w : World) (hr : 0 ≤ r ∧ r < 4) (hc : 0 ≤ c ∧ c < 4) :
    Calls Try.prog 36 #[.agg (mats m), .int .i64 r, .int .i64 c] w fun e w' => e = .returned (.int .i64 (m (4 * r + c).toNat)) ∧ Below w.heap.size w w' := by
  obtain ⟨BB, M0⟩ := argsE w m 23
  rcases four r hr with rfl | rfl | rfl | rfl
  all_goals rcases four c hc with rfl | rfl | rfl | rfl
  all_goals
    clear hr hc
    go_enter Try.func36, Try.ntmps36
    go_wp2_with fail
    go_ret
    exact ⟨rfl, BB⟩

set_option maxRecDepth 100000 in
set_option maxHeartbeats 4000000 in
theorem rcolumn_b (m : Nat → Int) (c : Int) (w : World) (hc : 0 ≤ c ∧ c < 4) :
    Calls Try.prog 39 #[.agg (mats m), .int .i64 c] w fun e w' => e = .returned (.agg #[.int .i64 (colv m c 0), .int .i64 (colv m c 1), .int .i64 (colv m c 2), .int .i64 (colv m c 3)]) ∧ Below w.heap.size w w' := by
  obtain ⟨BB, M0, d0, d1, d2, d3, f0, f1, f2, f3⟩ := argsR w m 23 25
  rcases four c hc with rfl | rfl | rfl | rfl
  all_goals
    clear hc
    go_enter Try.func39, Try.ntmps39
    go_wp2_with fail
    have k_M0 := mat_regrown M0
    have k_d0 := cell_regrown d0
    have k_d1 := cell_regrown d1
    have k_d2 := cell_regrown d2
    have k_d3 := cell_regrown d3
    refine wp_region_tail (n := 13) (by kernel_rfl) (by kernel_rfl) ?_
    simp only [List.take_succ_cons, List.take_zero, List.drop_succ_cons, List.drop_zero]
    repeat (first | (go_big_quiet_want; refine quiet_mload _ _ rfl matT (fun W hW => mat_class M0 hW) rfl ?_; go_simp; go_big_quiet_on) | go_big_quiet_step ((first | (go_at_call 36; exact Calls.regrown_of (relement_b _ _ _ _ (by omega) (by omega))))) | quiet_step ((first | (go_at_call 36; exact Calls.regrown_of (relement_b _ _ _ _ (by omega) (by omega))))))
    refine wpQuiet_nil ?_
    intro W hw'
    have B := below_regrown' hw'
    clear hw' k_M0 k_d0 k_d1 k_d2 k_d3
    replace BB := bon BB B
    replace f0 := frozen_below B d0 f0
    replace f1 := frozen_below B d1 f1
    replace f2 := frozen_below B d2 f2
    replace f3 := frozen_below B d3 f3
    replace M0 := mat_below B M0
    replace d0 := cell_below B d0
    replace d1 := cell_below B d1
    replace d2 := cell_below B d2
    replace d3 := cell_below B d3
    go_wp2_with fail
    refine bodyPost_ret (by simp [results, Try.results39, go_sem, *]; exact ⟨rfl, rfl, rfl, rfl⟩) rfl ⟨rfl, (((BB.setCell (by simp) _).setCell (by simp) _).setCell (by simp) _).setCell (by simp) _⟩

set_option maxRecDepth 100000 in
set_option maxHeartbeats 4000000 in
theorem rrow_b (m : Nat → Int) (r : Int) (w : World) :
    Calls Try.prog 11 #[.agg (mats m), .int .i64 r] w fun e w' => e = .returned (.agg #[.int .i64 (rowv m r 0), .int .i64 (rowv m r 1), .int .i64 (rowv m r 2), .int .i64 (rowv m r 3)]) ∧ Below w.heap.size w w' := by
  obtain ⟨BB, M0, d0, d1, d2, d3, f0, f1, f2, f3⟩ := argsR w m 23 25
  rcases five r with h | rfl | rfl | rfl | rfl
  · have hv : ∀ k, rowv m r k = 0 := fun k => by unfold rowv; rw [if_neg (by omega), if_neg (by omega), if_neg (by omega), if_neg (by omega)]
    rw [hv, hv, hv, hv]
    clear hv
    rcases h with h | h
    all_goals
      go_enter Try.func11, Try.ntmps11
      go_wp2_with fail
      exact bodyPost_ret (v := .agg #[.int .i64 0, .int .i64 0, .int .i64 0, .int .i64 0]) (by simp [results, Try.results11, go_sem, *]) rfl ⟨rfl, BB⟩
  all_goals
    go_enter Try.func11, Try.ntmps11
    go_wp2_with fail
    have k_M0 := mat_regrown M0
    have k_d0 := cell_regrown d0
    have k_d1 := cell_regrown d1
    have k_d2 := cell_regrown d2
    have k_d3 := cell_regrown d3
    refine wp_region_tail (n := 13) (by kernel_rfl) (by kernel_rfl) ?_
    simp only [List.take_succ_cons, List.take_zero, List.drop_succ_cons, List.drop_zero]
    repeat (first | (go_big_quiet_want; refine quiet_mload _ _ rfl matT (fun W hW => mat_class M0 hW) rfl ?_; go_simp; go_big_quiet_on) | go_big_quiet_step ((first | (go_at_call 36; exact Calls.regrown_of (relement_b _ _ _ _ (by omega) (by omega))))) | quiet_step ((first | (go_at_call 36; exact Calls.regrown_of (relement_b _ _ _ _ (by omega) (by omega))))))
    refine wpQuiet_nil ?_
    intro W hw'
    have B := below_regrown' hw'
    clear hw' k_M0 k_d0 k_d1 k_d2 k_d3
    replace BB := bon BB B
    replace f0 := frozen_below B d0 f0
    replace f1 := frozen_below B d1 f1
    replace f2 := frozen_below B d2 f2
    replace f3 := frozen_below B d3 f3
    replace M0 := mat_below B M0
    replace d0 := cell_below B d0
    replace d1 := cell_below B d1
    replace d2 := cell_below B d2
    replace d3 := cell_below B d3
    go_wp2_with fail
    refine bodyPost_ret (by simp [results, Try.results11, go_sem, *]; exact ⟨rfl, rfl, rfl, rfl⟩) rfl ⟨rfl, (((BB.setCell (by simp) _).setCell (by simp) _).setCell (by simp) _).setCell (by simp) _⟩

set_option maxRecDepth 100000 in
set_option maxHeartbeats 4000000 in
theorem row_b (m : Nat → Int) (r : Int) (w : World) :
    Calls Try.prog 10 #[.agg (mats m), .int .i64 r] w fun e w' => e = .returned (.agg #[.int .i64 (rowv m r 0), .int .i64 (rowv m r 1), .int .i64 (rowv m r 2), .int .i64 (rowv m r 3)]) ∧ Below w.heap.size w w' := by
  obtain ⟨BB, M0, d0, d1, d2, d3, f0, f1, f2, f3⟩ := argsR w m 23 25
  rcases five r with h | rfl | rfl | rfl | rfl
  · have hv : ∀ k, rowv m r k = 0 := fun k => by unfold rowv; rw [if_neg (by omega), if_neg (by omega), if_neg (by omega), if_neg (by omega)]
    rw [hv, hv, hv, hv]
    clear hv
    rcases h with h | h
    all_goals
      go_enter Try.func10, Try.ntmps10
      go_wp2_with fail
      exact bodyPost_ret (v := .agg #[.int .i64 0, .int .i64 0, .int .i64 0, .int .i64 0]) (by simp [results, Try.results10, go_sem, *]) rfl ⟨rfl, BB⟩
  · go_enter Try.func10, Try.ntmps10
    go_wp2_with (first | (go_at_call 35; refine (of_4 _ 0 4 16 (m 0) (m 1) (m 2) (m 3) _ (by omega) (M0 0 (by omega)) (M0 1 (by omega)) (M0 2 (by omega)) (M0 3 (by omega))).mono ?_; rintro _ _ ⟨rfl, B⟩; replace BB := bon BB B; replace f0 := frozen_below B d0 f0; replace f1 := frozen_below B d1 f1; replace f2 := frozen_below B d2 f2; replace f3 := frozen_below B d3 f3; replace d0 := cell_below B d0; replace d1 := cell_below B d1; replace d2 := cell_below B d2; replace d3 := cell_below B d3))
    exact bodyPost_ret (v := .agg #[.int .i64 (m 0), .int .i64 (m 1), .int .i64 (m 2), .int .i64 (m 3)]) (by simp [results, Try.results10, go_sem, *]) rfl ⟨rfl, (((BB.setCell (by simp) _).setCell (by simp) _).setCell (by simp) _).setCell (by simp) _⟩
  · go_enter Try.func10, Try.ntmps10
    go_wp2_with (first | (go_at_call 35; refine (of_4 _ 4 4 12 (m 4) (m 5) (m 6) (m 7) _ (by omega) (M0 4 (by omega)) (M0 5 (by omega)) (M0 6 (by omega)) (M0 7 (by omega))).mono ?_; rintro _ _ ⟨rfl, B⟩; replace BB := bon BB B; replace f0 := frozen_below B d0 f0; replace f1 := frozen_below B d1 f1; replace f2 := frozen_below B d2 f2; replace f3 := frozen_below B d3 f3; replace d0 := cell_below B d0; replace d1 := cell_below B d1; replace d2 := cell_below B d2; replace d3 := cell_below B d3))
    exact bodyPost_ret (v := .agg #[.int .i64 (m 4), .int .i64 (m 5), .int .i64 (m 6), .int .i64 (m 7)]) (by simp [results, Try.results10, go_sem, *]) rfl ⟨rfl, (((BB.setCell (by simp) _).setCell (by simp) _).setCell (by simp) _).setCell (by simp) _⟩
  · go_enter Try.func10, Try.ntmps10
    go_wp2_with (first | (go_at_call 35; refine (of_4 _ 8 4 8 (m 8) (m 9) (m 10) (m 11) _ (by omega) (M0 8 (by omega)) (M0 9 (by omega)) (M0 10 (by omega)) (M0 11 (by omega))).mono ?_; rintro _ _ ⟨rfl, B⟩; replace BB := bon BB B; replace f0 := frozen_below B d0 f0; replace f1 := frozen_below B d1 f1; replace f2 := frozen_below B d2 f2; replace f3 := frozen_below B d3 f3; replace d0 := cell_below B d0; replace d1 := cell_below B d1; replace d2 := cell_below B d2; replace d3 := cell_below B d3))
    exact bodyPost_ret (v := .agg #[.int .i64 (m 8), .int .i64 (m 9), .int .i64 (m 10), .int .i64 (m 11)]) (by simp [results, Try.results10, go_sem, *]) rfl ⟨rfl, (((BB.setCell (by simp) _).setCell (by simp) _).setCell (by simp) _).setCell (by simp) _⟩
  · go_enter Try.func10, Try.ntmps10
    go_wp2_with (first | (go_at_call 35; refine (of_4 _ 12 4 4 (m 12) (m 13) (m 14) (m 15) _ (by omega) (M0 12 (by omega)) (M0 13 (by omega)) (M0 14 (by omega)) (M0 15 (by omega))).mono ?_; rintro _ _ ⟨rfl, B⟩; replace BB := bon BB B; replace f0 := frozen_below B d0 f0; replace f1 := frozen_below B d1 f1; replace f2 := frozen_below B d2 f2; replace f3 := frozen_below B d3 f3; replace d0 := cell_below B d0; replace d1 := cell_below B d1; replace d2 := cell_below B d2; replace d3 := cell_below B d3))
    exact bodyPost_ret (v := .agg #[.int .i64 (m 12), .int .i64 (m 13), .int .i64 (m 14), .int .i64 (m 15)]) (by simp [results, Try.results10, go_sem, *]) rfl ⟨rfl, (((BB.setCell (by simp) _).setCell (by simp) _).setCell (by simp) _).setCell (by simp) _⟩

set_option maxRecDepth 100000 in
set_option maxHeartbeats 4000000 in
theorem rtranspose_b (m : Nat → Int) (w : World) :
    Calls Try.prog 17 #[.agg (mats m)] w fun e w' => e = .returned (.agg (mats (tr m))) ∧ Below w.heap.size w w' := by
  obtain ⟨BB, M0, M1, M2, Z1, Z2⟩ := argsT w m 23
  go_enter Try.func17, Try.ntmps17
  go_wp2_with fail
  go_loopw [4] (fun i W => ((i = .int .i64 0 ∧ TS w m (upto (tr m) 0) W) ∨ (i = .int .i64 1 ∧ TS w m (upto (tr m) 1) W) ∨ (i = .int .i64 2 ∧ TS w m (upto (tr m) 2) W) ∨ (i = .int .i64 3 ∧ TS w m (upto (tr m) 3) W) ∨ (i = .int .i64 4 ∧ TS w m (upto (tr m) 4) W) ∨ (i = .int .i64 5 ∧ TS w m (upto (tr m) 5) W) ∨ (i = .int .i64 6 ∧ TS w m (upto (tr m) 6) W) ∨ (i = .int .i64 7 ∧ TS w m (upto (tr m) 7) W) ∨ (i = .int .i64 8 ∧ TS w m (upto (tr m) 8) W) ∨ (i = .int .i64 9 ∧ TS w m (upto (tr m) 9) W) ∨ (i = .int .i64 10 ∧ TS w m (upto (tr m) 10) W) ∨ (i = .int .i64 11 ∧ TS w m (upto (tr m) 11) W) ∨ (i = .int .i64 12 ∧ TS w m (upto (tr m) 12) W) ∨ (i = .int .i64 13 ∧ TS w m (upto (tr m) 13) W) ∨ (i = .int .i64 14 ∧ TS w m (upto (tr m) 14) W) ∨ (i = .int .i64 15 ∧ TS w m (upto (tr m) 15) W) ∨ (i = .int .i64 16 ∧ TS w m (upto (tr m) 16) W))) (fun i _ => (16 - intOf i).toNat)
  case atStart => exact .inl ⟨rfl, BB, M0, M1, zero_upto (tr m) M2, Z1, Z2⟩
  case round =>
    clear BB M0 M1 M2 Z1 Z2
    rcases hrel with ⟨rfl, BB, M0, M1, M2, Z1, Z2⟩ | ⟨rfl, BB, M0, M1, M2, Z1, Z2⟩ | ⟨rfl, BB, M0, M1, M2, Z1, Z2⟩ | ⟨rfl, BB, M0, M1, M2, Z1, Z2⟩ | ⟨rfl, BB, M0, M1, M2, Z1, Z2⟩ | ⟨rfl, BB, M0, M1, M2, Z1, Z2⟩ | ⟨rfl, BB, M0, M1, M2, Z1, Z2⟩ | ⟨rfl, BB, M0, M1, M2, Z1, Z2⟩ | ⟨rfl, BB, M0, M1, M2, Z1, Z2⟩ | ⟨rfl, BB, M0, M1, M2, Z1, Z2⟩ | ⟨rfl, BB, M0, M1, M2, Z1, Z2⟩ | ⟨rfl, BB, M0, M1, M2, Z1, Z2⟩ | ⟨rfl, BB, M0, M1, M2, Z1, Z2⟩ | ⟨rfl, BB, M0, M1, M2, Z1, Z2⟩ | ⟨rfl, BB, M0, M1, M2, Z1, Z2⟩ | ⟨rfl, BB, M0, M1, M2, Z1, Z2⟩ | ⟨rfl, BB, M0, M1, M2, Z1, Z2⟩
    · go_wp2_with (first | (refine wpList_mload rfl _ _ rfl matT M0 rfl ?_; go_simp) | (refine wpList_mload rfl _ _ rfl matT M1 rfl ?_; go_simp) | (refine wpList_mload rfl _ _ rfl matT M2 rfl ?_; go_simp) | (go_at_call 36; refine (relement_b _ _ _ _ (by omega) (by omega)).mono ?_; rintro _ _ ⟨rfl, B⟩; replace BB := bon BB B; replace Z1 := matz_below B M1 Z1; replace Z2 := matz_below B M2 Z2; replace M0 := mat_below B M0; replace M1 := mat_below B M1; replace M2 := mat_below B M2))
      go_roundw
      case rel => exact .inr (.inl ⟨rfl, BB.setCell (by show w.heap.size ≤ w.heap.size + 1 + 1; omega) _, mat_set_far M0 (by omega), mat_set_far M1 (by omega), upto_set M2 (by decide) rfl, matz_set Z1, matz_set Z2⟩)
      case measure => simp [intOf]
    · go_wp2_with (first | (refine wpList_mload rfl _ _ rfl matT M0 rfl ?_; go_simp) | (refine wpList_mload rfl _ _ rfl matT M1 rfl ?_; go_simp) | (refine wpList_mload rfl _ _ rfl matT M2 rfl ?_; go_simp) | (go_at_call 36; refine (relement_b _ _ _ _ (by omega) (by omega)).mono ?_; rintro _ _ ⟨rfl, B⟩; replace BB := bon BB B; replace Z1 := matz_below B M1 Z1; replace Z2 := matz_below B M2 Z2; replace M0 := mat_below B M0; replace M1 := mat_below B M1; replace M2 := mat_below B M2))
      go_roundw
      case rel => exact .inr (.inr (.inl ⟨rfl, BB.setCell (by show w.heap.size ≤ w.heap.size + 1 + 1; omega) _, mat_set_far M0 (by omega), mat_set_far M1 (by omega), upto_set M2 (by decide) rfl, matz_set Z1, matz_set Z2⟩))
      case measure => simp [intOf]
    · go_wp2_with (first | (refine wpList_mload rfl _ _ rfl matT M0 rfl ?_; go_simp) | (refine wpList_mload rfl _ _ rfl matT M1 rfl ?_; go_simp) | (refine wpList_mload rfl _ _ rfl matT M2 rfl ?_; go_simp) | (go_at_call 36; refine (relement_b _ _ _ _ (by omega) (by omega)).mono ?_; rintro _ _ ⟨rfl, B⟩; replace BB := bon BB B; replace Z1 := matz_below B M1 Z1; replace Z2 := matz_below B M2 Z2; replace M0 := mat_below B M0; replace M1 := mat_below B M1; replace M2 := mat_below B M2))
      go_roundw
      case rel => exact .inr (.inr (.inr (.inl ⟨rfl, BB.setCell (by show w.heap.size ≤ w.heap.size + 1 + 1; omega) _, mat_set_far M0 (by omega), mat_set_far M1 (by omega), upto_set M2 (by decide) rfl, matz_set Z1, matz_set Z2⟩)))
      case measure => simp [intOf]
    · go_wp2_with (first | (refine wpList_mload rfl _ _ rfl matT M0 rfl ?_; go_simp) | (refine wpList_mload rfl _ _ rfl matT M1 rfl ?_; go_simp) | (refine wpList_mload rfl _ _ rfl matT M2 rfl ?_; go_simp) | (go_at_call 36; refine (relement_b _ _ _ _ (by omega) (by omega)).mono ?_; rintro _ _ ⟨rfl, B⟩; replace BB := bon BB B; replace Z1 := matz_below B M1 Z1; replace Z2 := matz_below B M2 Z2; replace M0 := mat_below B M0; replace M1 := mat_below B M1; replace M2 := mat_below B M2))
      go_roundw
      case rel => exact .inr (.inr (.inr (.inr (.inl ⟨rfl, BB.setCell (by show w.heap.size ≤ w.heap.size + 1 + 1; omega) _, mat_set_far M0 (by omega), mat_set_far M1 (by omega), upto_set M2 (by decide) rfl, matz_set Z1, matz_set Z2⟩))))
      case measure => simp [intOf]
    · go_wp2_with (first | (refine wpList_mload rfl _ _ rfl matT M0 rfl ?_; go_simp) | (refine wpList_mload rfl _ _ rfl matT M1 rfl ?_; go_simp) | (refine wpList_mload rfl _ _ rfl matT M2 rfl ?_; go_simp) | (go_at_call 36; refine (relement_b _ _ _ _ (by omega) (by omega)).mono ?_; rintro _ _ ⟨rfl, B⟩; replace BB := bon BB B; replace Z1 := matz_below B M1 Z1; replace Z2 := matz_below B M2 Z2; replace M0 := mat_below B M0; replace M1 := mat_below B M1; replace M2 := mat_below B M2))
      go_roundw
      case rel => exact .inr (.inr (.inr (.inr (.inr (.inl ⟨rfl, BB.setCell (by show w.heap.size ≤ w.heap.size + 1 + 1; omega) _, mat_set_far M0 (by omega), mat_set_far M1 (by omega), upto_set M2 (by decide) rfl, matz_set Z1, matz_set Z2⟩)))))
      case measure => simp [intOf]
    · go_wp2_with (first | (refine wpList_mload rfl _ _ rfl matT M0 rfl ?_; go_simp) | (refine wpList_mload rfl _ _ rfl matT M1 rfl ?_; go_simp) | (refine wpList_mload rfl _ _ rfl matT M2 rfl ?_; go_simp) | (go_at_call 36; refine (relement_b _ _ _ _ (by omega) (by omega)).mono ?_; rintro _ _ ⟨rfl, B⟩; replace BB := bon BB B; replace Z1 := matz_below B M1 Z1; replace Z2 := matz_below B M2 Z2; replace M0 := mat_below B M0; replace M1 := mat_below B M1; replace M2 := mat_below B M2))
      go_roundw
      case rel => exact .inr (.inr (.inr (.inr (.inr (.inr (.inl ⟨rfl, BB.setCell (by show w.heap.size ≤ w.heap.size + 1 + 1; omega) _, mat_set_far M0 (by omega), mat_set_far M1 (by omega), upto_set M2 (by decide) rfl, matz_set Z1, matz_set Z2⟩))))))
      case measure => simp [intOf]
    · go_wp2_with (first | (refine wpList_mload rfl _ _ rfl matT M0 rfl ?_; go_simp) | (refine wpList_mload rfl _ _ rfl matT M1 rfl ?_; go_simp) | (refine wpList_mload rfl _ _ rfl matT M2 rfl ?_; go_simp) | (go_at_call 36; refine (relement_b _ _ _ _ (by omega) (by omega)).mono ?_; rintro _ _ ⟨rfl, B⟩; replace BB := bon BB B; replace Z1 := matz_below B M1 Z1; replace Z2 := matz_below B M2 Z2; replace M0 := mat_below B M0; replace M1 := mat_below B M1; replace M2 := mat_below B M2))
      go_roundw
      case rel => exact .inr (.inr (.inr (.inr (.inr (.inr (.inr (.inl ⟨rfl, BB.setCell (by show w.heap.size ≤ w.heap.size + 1 + 1; omega) _, mat_set_far M0 (by omega), mat_set_far M1 (by omega), upto_set M2 (by decide) rfl, matz_set Z1, matz_set Z2⟩)))))))
      case measure => simp [intOf]
    · go_wp2_with (first | (refine wpList_mload rfl _ _ rfl matT M0 rfl ?_; go_simp) | (refine wpList_mload rfl _ _ rfl matT M1 rfl ?_; go_simp) | (refine wpList_mload rfl _ _ rfl matT M2 rfl ?_; go_simp) | (go_at_call 36; refine (relement_b _ _ _ _ (by omega) (by omega)).mono ?_; rintro _ _ ⟨rfl, B⟩; replace BB := bon BB B; replace Z1 := matz_below B M1 Z1; replace Z2 := matz_below B M2 Z2; replace M0 := mat_below B M0; replace M1 := mat_below B M1; replace M2 := mat_below B M2))
      go_roundw
      case rel => exact .inr (.inr (.inr (.inr (.inr (.inr (.inr (.inr (.inl ⟨rfl, BB.setCell (by show w.heap.size ≤ w.heap.size + 1 + 1; omega) _, mat_set_far M0 (by omega), mat_set_far M1 (by omega), upto_set M2 (by decide) rfl, matz_set Z1, matz_set Z2⟩))))))))
      case measure => simp [intOf]
    · go_wp2_with (first | (refine wpList_mload rfl _ _ rfl matT M0 rfl ?_; go_simp) | (refine wpList_mload rfl _ _ rfl matT M1 rfl ?_; go_simp) | (refine wpList_mload rfl _ _ rfl matT M2 rfl ?_; go_simp) | (go_at_call 36; refine (relement_b _ _ _ _ (by omega) (by omega)).mono ?_; rintro _ _ ⟨rfl, B⟩; replace BB := bon BB B; replace Z1 := matz_below B M1 Z1; replace Z2 := matz_below B M2 Z2; replace M0 := mat_below B M0; replace M1 := mat_below B M1; replace M2 := mat_below B M2))
      go_roundw
      case rel => exact .inr (.inr (.inr (.inr (.inr (.inr (.inr (.inr (.inr (.inl ⟨rfl, BB.setCell (by show w.heap.size ≤ w.heap.size + 1 + 1; omega) _, mat_set_far M0 (by omega), mat_set_far M1 (by omega), upto_set M2 (by decide) rfl, matz_set Z1, matz_set Z2⟩)))))))))
      case measure => simp [intOf]
    · go_wp2_with (first | (refine wpList_mload rfl _ _ rfl matT M0 rfl ?_; go_simp) | (refine wpList_mload rfl _ _ rfl matT M1 rfl ?_; go_simp) | (refine wpList_mload rfl _ _ rfl matT M2 rfl ?_; go_simp) | (go_at_call 36; refine (relement_b _ _ _ _ (by omega) (by omega)).mono ?_; rintro _ _ ⟨rfl, B⟩; replace BB := bon BB B; replace Z1 := matz_below B M1 Z1; replace Z2 := matz_below B M2 Z2; replace M0 := mat_below B M0; replace M1 := mat_below B M1; replace M2 := mat_below B M2))
      go_roundw
      case rel => exact .inr (.inr (.inr (.inr (.inr (.inr (.inr (.inr (.inr (.inr (.inl ⟨rfl, BB.setCell (by show w.heap.size ≤ w.heap.size + 1 + 1; omega) _, mat_set_far M0 (by omega), mat_set_far M1 (by omega), upto_set M2 (by decide) rfl, matz_set Z1, matz_set Z2⟩))))))))))
      case measure => simp [intOf]
    · go_wp2_with (first | (refine wpList_mload rfl _ _ rfl matT M0 rfl ?_; go_simp) | (refine wpList_mload rfl _ _ rfl matT M1 rfl ?_; go_simp) | (refine wpList_mload rfl _ _ rfl matT M2 rfl ?_; go_simp) | (go_at_call 36; refine (relement_b _ _ _ _ (by omega) (by omega)).mono ?_; rintro _ _ ⟨rfl, B⟩; replace BB := bon BB B; replace Z1 := matz_below B M1 Z1; replace Z2 := matz_below B M2 Z2; replace M0 := mat_below B M0; replace M1 := mat_below B M1; replace M2 := mat_below B M2))
      go_roundw
      case rel => exact .inr (.inr (.inr (.inr (.inr (.inr (.inr (.inr (.inr (.inr (.inr (.inl ⟨rfl, BB.setCell (by show w.heap.size ≤ w.heap.size + 1 + 1; omega) _, mat_set_far M0 (by omega), mat_set_far M1 (by omega), upto_set M2 (by decide) rfl, matz_set Z1, matz_set Z2⟩)))))))))))
      case measure => simp [intOf]
    · go_wp2_with (first | (refine wpList_mload rfl _ _ rfl matT M0 rfl ?_; go_simp) | (refine wpList_mload rfl _ _ rfl matT M1 rfl ?_; go_simp) | (refine wpList_mload rfl _ _ rfl matT M2 rfl ?_; go_simp) | (go_at_call 36; refine (relement_b _ _ _ _ (by omega) (by omega)).mono ?_; rintro _ _ ⟨rfl, B⟩; replace BB := bon BB B; replace Z1 := matz_below B M1 Z1; replace Z2 := matz_below B M2 Z2; replace M0 := mat_below B M0; replace M1 := mat_below B M1; replace M2 := mat_below B M2))
      go_roundw
      case rel => exact .inr (.inr (.inr (.inr (.inr (.inr (.inr (.inr (.inr (.inr (.inr (.inr (.inl ⟨rfl, BB.setCell (by show w.heap.size ≤ w.heap.size + 1 + 1; omega) _, mat_set_far M0 (by omega), mat_set_far M1 (by omega), upto_set M2 (by decide) rfl, matz_set Z1, matz_set Z2⟩))))))))))))
      case measure => simp [intOf]
    · go_wp2_with (first | (refine wpList_mload rfl _ _ rfl matT M0 rfl ?_; go_simp) | (refine wpList_mload rfl _ _ rfl matT M1 rfl ?_; go_simp) | (refine wpList_mload rfl _ _ rfl matT M2 rfl ?_; go_simp) | (go_at_call 36; refine (relement_b _ _ _ _ (by omega) (by omega)).mono ?_; rintro _ _ ⟨rfl, B⟩; replace BB := bon BB B; replace Z1 := matz_below B M1 Z1; replace Z2 := matz_below B M2 Z2; replace M0 := mat_below B M0; replace M1 := mat_below B M1; replace M2 := mat_below B M2))
      go_roundw
      case rel => exact .inr (.inr (.inr (.inr (.inr (.inr (.inr (.inr (.inr (.inr (.inr (.inr (.inr (.inl ⟨rfl, BB.setCell (by show w.heap.size ≤ w.heap.size + 1 + 1; omega) _, mat_set_far M0 (by omega), mat_set_far M1 (by omega), upto_set M2 (by decide) rfl, matz_set Z1, matz_set Z2⟩)))))))))))))
      case measure => simp [intOf]
    · go_wp2_with (first | (refine wpList_mload rfl _ _ rfl matT M0 rfl ?_; go_simp) | (refine wpList_mload rfl _ _ rfl matT M1 rfl ?_; go_simp) | (refine wpList_mload rfl _ _ rfl matT M2 rfl ?_; go_simp) | (go_at_call 36; refine (relement_b _ _ _ _ (by omega) (by omega)).mono ?_; rintro _ _ ⟨rfl, B⟩; replace BB := bon BB B; replace Z1 := matz_below B M1 Z1; replace Z2 := matz_below B M2 Z2; replace M0 := mat_below B M0; replace M1 := mat_below B M1; replace M2 := mat_below B M2))
      go_roundw
      case rel => exact .inr (.inr (.inr (.inr (.inr (.inr (.inr (.inr (.inr (.inr (.inr (.inr (.inr (.inr (.inl ⟨rfl, BB.setCell (by show w.heap.size ≤ w.heap.size + 1 + 1; omega) _, mat_set_far M0 (by omega), mat_set_far M1 (by omega), upto_set M2 (by decide) rfl, matz_set Z1, matz_set Z2⟩))))))))))))))
      case measure => simp [intOf]
    · go_wp2_with (first | (refine wpList_mload rfl _ _ rfl matT M0 rfl ?_; go_simp) | (refine wpList_mload rfl _ _ rfl matT M1 rfl ?_; go_simp) | (refine wpList_mload rfl _ _ rfl matT M2 rfl ?_; go_simp) | (go_at_call 36; refine (relement_b _ _ _ _ (by omega) (by omega)).mono ?_; rintro _ _ ⟨rfl, B⟩; replace BB := bon BB B; replace Z1 := matz_below B M1 Z1; replace Z2 := matz_below B M2 Z2; replace M0 := mat_below B M0; replace M1 := mat_below B M1; replace M2 := mat_below B M2))
      go_roundw
      case rel => exact .inr (.inr (.inr (.inr (.inr (.inr (.inr (.inr (.inr (.inr (.inr (.inr (.inr (.inr (.inr (.inl ⟨rfl, BB.setCell (by show w.heap.size ≤ w.heap.size + 1 + 1; omega) _, mat_set_far M0 (by omega), mat_set_far M1 (by omega), upto_set M2 (by decide) rfl, matz_set Z1, matz_set Z2⟩)))))))))))))))
      case measure => simp [intOf]
    · go_wp2_with (first | (refine wpList_mload rfl _ _ rfl matT M0 rfl ?_; go_simp) | (refine wpList_mload rfl _ _ rfl matT M1 rfl ?_; go_simp) | (refine wpList_mload rfl _ _ rfl matT M2 rfl ?_; go_simp) | (go_at_call 36; refine (relement_b _ _ _ _ (by omega) (by omega)).mono ?_; rintro _ _ ⟨rfl, B⟩; replace BB := bon BB B; replace Z1 := matz_below B M1 Z1; replace Z2 := matz_below B M2 Z2; replace M0 := mat_below B M0; replace M1 := mat_below B M1; replace M2 := mat_below B M2))
      go_roundw
      case rel => exact .inr (.inr (.inr (.inr (.inr (.inr (.inr (.inr (.inr (.inr (.inr (.inr (.inr (.inr (.inr (.inr (⟨rfl, BB.setCell (by show w.heap.size ≤ w.heap.size + 1 + 1; omega) _, mat_set_far M0 (by omega), mat_set_far M1 (by omega), upto_set M2 (by decide) rfl, matz_set Z1, matz_set Z2⟩))))))))))))))))
      case measure => simp [intOf]
    · replace M2 := mat_to M2 (upto_all (tr m))
      clear M0
      go_wp2_with (first | (refine wpList_mload rfl _ _ rfl matT M2 rfl ?_; go_simp) | (refine wpList_mstore rfl 23 _ _ rfl (tr m) rfl rfl (m0 := fun _ => 0) M1 Z1 BB (by omega) matT ?_; intro W' BB' M' Z' _ _ _; clear M1 M2 Z1 Z2 BB))
      exact bodyPost_ret (results_mat Try.results17 matT M' _ rfl) rfl ⟨rfl, BB'⟩

end Go.Proofs.Ytlchecnencbamaa
