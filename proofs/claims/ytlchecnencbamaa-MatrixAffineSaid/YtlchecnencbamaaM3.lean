/- What Apply and Mul return, of the code and of the reference; limited vectors and matrices. -/
import Derived.Test.YtlchecnencbamaaM2
namespace Go.Proofs.Ytlchecnencbamaa
open Go.RowKit Go.Sort

/-- The product of a and b: the cell k; component r of the product of m and a vector. -/
def mulm (a b : Nat → Int) (k : Nat) : Int := dotv (a (4 * (k / 4))) (a (4 * (k / 4) + 1)) (a (4 * (k / 4) + 2)) (a (4 * (k / 4) + 3)) (b (k % 4)) (b (4 + k % 4)) (b (8 + k % 4)) (b (12 + k % 4))
def appv (m : Nat → Int) (r : Nat) (x0 x1 x2 x3 : Int) : Int := dotv (m (4 * r)) (m (4 * r + 1)) (m (4 * r + 2)) (m (4 * r + 3)) x0 x1 x2 x3

theorem argsAp (w : World) (m : Nat → Int) (x0 x1 x2 x3 : Int) (t u : TypeId) :
    Below w.heap.size w (((w.alloc (.cells (mats m) t)).alloc (.cells #[.int .i64 x0, .int .i64 x1, .int .i64 x2, .int .i64 x3] u)).alloc (.cells #[.int .i64 0, .int .i64 0, .int .i64 0, .int .i64 0] u)) ∧
    (∀ i, i < 16 → (((w.alloc (.cells (mats m) t)).alloc (.cells #[.int .i64 x0, .int .i64 x1, .int .i64 x2, .int .i64 x3] u)).alloc (.cells #[.int .i64 0, .int .i64 0, .int .i64 0, .int .i64 0] u)).cell? ⟨w.heap.size, i, none⟩ = some (.int .i64 (m i))) ∧
    (((w.alloc (.cells (mats m) t)).alloc (.cells #[.int .i64 x0, .int .i64 x1, .int .i64 x2, .int .i64 x3] u)).alloc (.cells #[.int .i64 0, .int .i64 0, .int .i64 0, .int .i64 0] u)).cell? ⟨w.heap.size + 1, 0, none⟩ = some (.int .i64 x0) ∧
    (((w.alloc (.cells (mats m) t)).alloc (.cells #[.int .i64 x0, .int .i64 x1, .int .i64 x2, .int .i64 x3] u)).alloc (.cells #[.int .i64 0, .int .i64 0, .int .i64 0, .int .i64 0] u)).cell? ⟨w.heap.size + 1, 1, none⟩ = some (.int .i64 x1) ∧
    (((w.alloc (.cells (mats m) t)).alloc (.cells #[.int .i64 x0, .int .i64 x1, .int .i64 x2, .int .i64 x3] u)).alloc (.cells #[.int .i64 0, .int .i64 0, .int .i64 0, .int .i64 0] u)).cell? ⟨w.heap.size + 1, 2, none⟩ = some (.int .i64 x2) ∧
    (((w.alloc (.cells (mats m) t)).alloc (.cells #[.int .i64 x0, .int .i64 x1, .int .i64 x2, .int .i64 x3] u)).alloc (.cells #[.int .i64 0, .int .i64 0, .int .i64 0, .int .i64 0] u)).cell? ⟨w.heap.size + 1, 3, none⟩ = some (.int .i64 x3) ∧
    (((w.alloc (.cells (mats m) t)).alloc (.cells #[.int .i64 x0, .int .i64 x1, .int .i64 x2, .int .i64 x3] u)).alloc (.cells #[.int .i64 0, .int .i64 0, .int .i64 0, .int .i64 0] u)).cell? ⟨w.heap.size + 2, 0, none⟩ = some (.int .i64 0) ∧
    (((w.alloc (.cells (mats m) t)).alloc (.cells #[.int .i64 x0, .int .i64 x1, .int .i64 x2, .int .i64 x3] u)).alloc (.cells #[.int .i64 0, .int .i64 0, .int .i64 0, .int .i64 0] u)).cell? ⟨w.heap.size + 2, 1, none⟩ = some (.int .i64 0) ∧
    (((w.alloc (.cells (mats m) t)).alloc (.cells #[.int .i64 x0, .int .i64 x1, .int .i64 x2, .int .i64 x3] u)).alloc (.cells #[.int .i64 0, .int .i64 0, .int .i64 0, .int .i64 0] u)).cell? ⟨w.heap.size + 2, 2, none⟩ = some (.int .i64 0) ∧
    (((w.alloc (.cells (mats m) t)).alloc (.cells #[.int .i64 x0, .int .i64 x1, .int .i64 x2, .int .i64 x3] u)).alloc (.cells #[.int .i64 0, .int .i64 0, .int .i64 0, .int .i64 0] u)).cell? ⟨w.heap.size + 2, 3, none⟩ = some (.int .i64 0) ∧
    (((w.alloc (.cells (mats m) t)).alloc (.cells #[.int .i64 x0, .int .i64 x1, .int .i64 x2, .int .i64 x3] u)).alloc (.cells #[.int .i64 0, .int .i64 0, .int .i64 0, .int .i64 0] u)).frozen? ⟨w.heap.size + 2, 0, none⟩ = false ∧
    (((w.alloc (.cells (mats m) t)).alloc (.cells #[.int .i64 x0, .int .i64 x1, .int .i64 x2, .int .i64 x3] u)).alloc (.cells #[.int .i64 0, .int .i64 0, .int .i64 0, .int .i64 0] u)).frozen? ⟨w.heap.size + 2, 1, none⟩ = false ∧
    (((w.alloc (.cells (mats m) t)).alloc (.cells #[.int .i64 x0, .int .i64 x1, .int .i64 x2, .int .i64 x3] u)).alloc (.cells #[.int .i64 0, .int .i64 0, .int .i64 0, .int .i64 0] u)).frozen? ⟨w.heap.size + 2, 2, none⟩ = false ∧
    (((w.alloc (.cells (mats m) t)).alloc (.cells #[.int .i64 x0, .int .i64 x1, .int .i64 x2, .int .i64 x3] u)).alloc (.cells #[.int .i64 0, .int .i64 0, .int .i64 0, .int .i64 0] u)).frozen? ⟨w.heap.size + 2, 3, none⟩ = false := by
  have BB : Below w.heap.size w w := Below.refl _ _
  have hsz0 : w.heap.size = w.heap.size := by simp
  obtain ⟨B, BB⟩ := box_on BB (mats m) t
  have M0 := mat_box w m t
  have Z0 := mat_boxz w m t
  rw [hsz0] at M0 Z0
  have hsz1 : (w.alloc (.cells (mats m) t)).heap.size = w.heap.size + 1 := by simp
  obtain ⟨B, BB⟩ := box_on BB #[.int .i64 x0, .int .i64 x1, .int .i64 x2, .int .i64 x3] u
  replace Z0 := matz_below B M0 Z0
  replace M0 := mat_below B M0
  have p1_0 := box_cell (w.alloc (.cells (mats m) t)) #[.int .i64 x0, .int .i64 x1, .int .i64 x2, .int .i64 x3] u 0 _ rfl
  have p1_1 := box_cell (w.alloc (.cells (mats m) t)) #[.int .i64 x0, .int .i64 x1, .int .i64 x2, .int .i64 x3] u 1 _ rfl
  have p1_2 := box_cell (w.alloc (.cells (mats m) t)) #[.int .i64 x0, .int .i64 x1, .int .i64 x2, .int .i64 x3] u 2 _ rfl
  have p1_3 := box_cell (w.alloc (.cells (mats m) t)) #[.int .i64 x0, .int .i64 x1, .int .i64 x2, .int .i64 x3] u 3 _ rfl
  have f1_0 := box_frozen (w.alloc (.cells (mats m) t)) #[.int .i64 x0, .int .i64 x1, .int .i64 x2, .int .i64 x3] u 0
  have f1_1 := box_frozen (w.alloc (.cells (mats m) t)) #[.int .i64 x0, .int .i64 x1, .int .i64 x2, .int .i64 x3] u 1
  have f1_2 := box_frozen (w.alloc (.cells (mats m) t)) #[.int .i64 x0, .int .i64 x1, .int .i64 x2, .int .i64 x3] u 2
  have f1_3 := box_frozen (w.alloc (.cells (mats m) t)) #[.int .i64 x0, .int .i64 x1, .int .i64 x2, .int .i64 x3] u 3
  rw [hsz1] at p1_0 p1_1 p1_2 p1_3 f1_0 f1_1 f1_2 f1_3
  have hsz2 : ((w.alloc (.cells (mats m) t)).alloc (.cells #[.int .i64 x0, .int .i64 x1, .int .i64 x2, .int .i64 x3] u)).heap.size = w.heap.size + 2 := by simp
  obtain ⟨B, BB⟩ := box_on BB #[.int .i64 0, .int .i64 0, .int .i64 0, .int .i64 0] u
  replace Z0 := matz_below B M0 Z0
  replace f1_0 := frozen_below B p1_0 f1_0
  replace f1_1 := frozen_below B p1_1 f1_1
  replace f1_2 := frozen_below B p1_2 f1_2
  replace f1_3 := frozen_below B p1_3 f1_3
  replace M0 := mat_below B M0
  replace p1_0 := cell_below B p1_0
  replace p1_1 := cell_below B p1_1
  replace p1_2 := cell_below B p1_2
  replace p1_3 := cell_below B p1_3
  have p2_0 := box_cell ((w.alloc (.cells (mats m) t)).alloc (.cells #[.int .i64 x0, .int .i64 x1, .int .i64 x2, .int .i64 x3] u)) #[.int .i64 0, .int .i64 0, .int .i64 0, .int .i64 0] u 0 _ rfl
  have p2_1 := box_cell ((w.alloc (.cells (mats m) t)).alloc (.cells #[.int .i64 x0, .int .i64 x1, .int .i64 x2, .int .i64 x3] u)) #[.int .i64 0, .int .i64 0, .int .i64 0, .int .i64 0] u 1 _ rfl
  have p2_2 := box_cell ((w.alloc (.cells (mats m) t)).alloc (.cells #[.int .i64 x0, .int .i64 x1, .int .i64 x2, .int .i64 x3] u)) #[.int .i64 0, .int .i64 0, .int .i64 0, .int .i64 0] u 2 _ rfl
  have p2_3 := box_cell ((w.alloc (.cells (mats m) t)).alloc (.cells #[.int .i64 x0, .int .i64 x1, .int .i64 x2, .int .i64 x3] u)) #[.int .i64 0, .int .i64 0, .int .i64 0, .int .i64 0] u 3 _ rfl
  have f2_0 := box_frozen ((w.alloc (.cells (mats m) t)).alloc (.cells #[.int .i64 x0, .int .i64 x1, .int .i64 x2, .int .i64 x3] u)) #[.int .i64 0, .int .i64 0, .int .i64 0, .int .i64 0] u 0
  have f2_1 := box_frozen ((w.alloc (.cells (mats m) t)).alloc (.cells #[.int .i64 x0, .int .i64 x1, .int .i64 x2, .int .i64 x3] u)) #[.int .i64 0, .int .i64 0, .int .i64 0, .int .i64 0] u 1
  have f2_2 := box_frozen ((w.alloc (.cells (mats m) t)).alloc (.cells #[.int .i64 x0, .int .i64 x1, .int .i64 x2, .int .i64 x3] u)) #[.int .i64 0, .int .i64 0, .int .i64 0, .int .i64 0] u 2
  have f2_3 := box_frozen ((w.alloc (.cells (mats m) t)).alloc (.cells #[.int .i64 x0, .int .i64 x1, .int .i64 x2, .int .i64 x3] u)) #[.int .i64 0, .int .i64 0, .int .i64 0, .int .i64 0] u 3
  rw [hsz2] at p2_0 p2_1 p2_2 p2_3 f2_0 f2_1 f2_2 f2_3
  exact ⟨BB, M0, p1_0, p1_1, p1_2, p1_3, p2_0, p2_1, p2_2, p2_3, f2_0, f2_1, f2_2, f2_3⟩

set_option maxRecDepth 100000 in
set_option maxHeartbeats 4000000 in
theorem apply_b (m : Nat → Int) (x0 x1 x2 x3 : Int) (w : World) :
    Calls Try.prog 12 #[.agg (mats m), .agg #[.int .i64 x0, .int .i64 x1, .int .i64 x2, .int .i64 x3]] w fun e w' => e = .returned (.agg #[.int .i64 (appv m 0 x0 x1 x2 x3), .int .i64 (appv m 1 x0 x1 x2 x3), .int .i64 (appv m 2 x0 x1 x2 x3), .int .i64 (appv m 3 x0 x1 x2 x3)]) ∧ Below w.heap.size w w' := by
  obtain ⟨BB, M0, a0, a1, a2, a3, d0, d1, d2, d3, f0, f1, f2, f3⟩ := argsAp w m x0 x1 x2 x3 23 25
  go_enter Try.func12, Try.ntmps12
  go_wp2_with fail
  have k_M0 := mat_regrown M0
  have k_a0 := cell_regrown a0
  have k_a1 := cell_regrown a1
  have k_a2 := cell_regrown a2
  have k_a3 := cell_regrown a3
  have k_d0 := cell_regrown d0
  have k_d1 := cell_regrown d1
  have k_d2 := cell_regrown d2
  have k_d3 := cell_regrown d3
  refine wp_region_tail (n := 17) (by kernel_rfl) (by kernel_rfl) ?_
  simp only [List.take_succ_cons, List.take_zero, List.drop_succ_cons, List.drop_zero]
  repeat (first | (go_big_quiet_want; refine quiet_mload _ _ rfl matT (fun W hW => mat_class M0 hW) rfl ?_; go_simp; go_big_quiet_on) | go_big_quiet_step ((first | (go_at_call 10; exact Calls.regrown_of (row_b _ _ _)) | (go_at_call 37; exact Calls.regrown_of (dot_b _ _ _ _ _ _ _ _ _)))) | quiet_step ((first | (go_at_call 10; exact Calls.regrown_of (row_b _ _ _)) | (go_at_call 37; exact Calls.regrown_of (dot_b _ _ _ _ _ _ _ _ _)))))
  refine wpQuiet_nil ?_
  intro W hw'
  have B := below_regrown' hw'
  clear hw' k_M0 k_a0 k_a1 k_a2 k_a3 k_d0 k_d1 k_d2 k_d3
  replace BB := bon BB B
  replace f0 := frozen_below B d0 f0
  replace f1 := frozen_below B d1 f1
  replace f2 := frozen_below B d2 f2
  replace f3 := frozen_below B d3 f3
  replace M0 := mat_below B M0
  replace a0 := cell_below B a0
  replace a1 := cell_below B a1
  replace a2 := cell_below B a2
  replace a3 := cell_below B a3
  replace d0 := cell_below B d0
  replace d1 := cell_below B d1
  replace d2 := cell_below B d2
  replace d3 := cell_below B d3
  go_wp2_with fail
  refine bodyPost_ret (by simp [results, Try.results12, go_sem, *]; exact ⟨rfl, rfl, rfl, rfl⟩) rfl ⟨rfl, (((BB.setCell (by simp; omega) _).setCell (by simp; omega) _).setCell (by simp; omega) _).setCell (by simp; omega) _⟩

set_option maxRecDepth 100000 in
set_option maxHeartbeats 4000000 in
theorem rapply_b (m : Nat → Int) (x0 x1 x2 x3 : Int) (w : World) :
    Calls Try.prog 13 #[.agg (mats m), .agg #[.int .i64 x0, .int .i64 x1, .int .i64 x2, .int .i64 x3]] w fun e w' => e = .returned (.agg #[.int .i64 (appv m 0 x0 x1 x2 x3), .int .i64 (appv m 1 x0 x1 x2 x3), .int .i64 (appv m 2 x0 x1 x2 x3), .int .i64 (appv m 3 x0 x1 x2 x3)]) ∧ Below w.heap.size w w' := by
  obtain ⟨BB, M0, a0, a1, a2, a3, d0, d1, d2, d3, f0, f1, f2, f3⟩ := argsAp w m x0 x1 x2 x3 23 25
  go_enter Try.func13, Try.ntmps13
  go_wp2_with fail
  have k_M0 := mat_regrown M0
  have k_a0 := cell_regrown a0
  have k_a1 := cell_regrown a1
  have k_a2 := cell_regrown a2
  have k_a3 := cell_regrown a3
  have k_d0 := cell_regrown d0
  have k_d1 := cell_regrown d1
  have k_d2 := cell_regrown d2
  have k_d3 := cell_regrown d3
  refine wp_region_tail (n := 17) (by kernel_rfl) (by kernel_rfl) ?_
  simp only [List.take_succ_cons, List.take_zero, List.drop_succ_cons, List.drop_zero]
  repeat (first | (go_big_quiet_want; refine quiet_mload _ _ rfl matT (fun W hW => mat_class M0 hW) rfl ?_; go_simp; go_big_quiet_on) | go_big_quiet_step ((first | (go_at_call 11; exact Calls.regrown_of (rrow_b _ _ _)) | (go_at_call 38; exact Calls.regrown_of (rdot_b _ _ _ _ _ _ _ _ _)))) | quiet_step ((first | (go_at_call 11; exact Calls.regrown_of (rrow_b _ _ _)) | (go_at_call 38; exact Calls.regrown_of (rdot_b _ _ _ _ _ _ _ _ _)))))
  refine wpQuiet_nil ?_
  intro W hw'
  have B := below_regrown' hw'
  clear hw' k_M0 k_a0 k_a1 k_a2 k_a3 k_d0 k_d1 k_d2 k_d3
  replace BB := bon BB B
  replace f0 := frozen_below B d0 f0
  replace f1 := frozen_below B d1 f1
  replace f2 := frozen_below B d2 f2
  replace f3 := frozen_below B d3 f3
  replace M0 := mat_below B M0
  replace a0 := cell_below B a0
  replace a1 := cell_below B a1
  replace a2 := cell_below B a2
  replace a3 := cell_below B a3
  replace d0 := cell_below B d0
  replace d1 := cell_below B d1
  replace d2 := cell_below B d2
  replace d3 := cell_below B d3
  go_wp2_with fail
  refine bodyPost_ret (by simp [results, Try.results13, go_sem, *]; exact ⟨rfl, rfl, rfl, rfl⟩) rfl ⟨rfl, (((BB.setCell (by simp; omega) _).setCell (by simp; omega) _).setCell (by simp; omega) _).setCell (by simp; omega) _⟩

theorem argsMu (w : World) (a : Nat → Int) (b : Nat → Int) (t : TypeId) :
    Below w.heap.size w (((w.alloc (.cells (mats a) t)).alloc (.cells (mats b) t)).alloc (.cells #[.int .i64 0, .int .i64 0, .int .i64 0, .int .i64 0, .int .i64 0, .int .i64 0, .int .i64 0, .int .i64 0, .int .i64 0, .int .i64 0, .int .i64 0, .int .i64 0, .int .i64 0, .int .i64 0, .int .i64 0, .int .i64 0] t)) ∧
    (∀ i, i < 16 → (((w.alloc (.cells (mats a) t)).alloc (.cells (mats b) t)).alloc (.cells #[.int .i64 0, .int .i64 0, .int .i64 0, .int .i64 0, .int .i64 0, .int .i64 0, .int .i64 0, .int .i64 0, .int .i64 0, .int .i64 0, .int .i64 0, .int .i64 0, .int .i64 0, .int .i64 0, .int .i64 0, .int .i64 0] t)).cell? ⟨w.heap.size, i, none⟩ = some (.int .i64 (a i))) ∧
    (∀ i, i < 16 → (((w.alloc (.cells (mats a) t)).alloc (.cells (mats b) t)).alloc (.cells #[.int .i64 0, .int .i64 0, .int .i64 0, .int .i64 0, .int .i64 0, .int .i64 0, .int .i64 0, .int .i64 0, .int .i64 0, .int .i64 0, .int .i64 0, .int .i64 0, .int .i64 0, .int .i64 0, .int .i64 0, .int .i64 0] t)).cell? ⟨w.heap.size + 1, i, none⟩ = some (.int .i64 (b i))) ∧
    (∀ i, i < 16 → (((w.alloc (.cells (mats a) t)).alloc (.cells (mats b) t)).alloc (.cells #[.int .i64 0, .int .i64 0, .int .i64 0, .int .i64 0, .int .i64 0, .int .i64 0, .int .i64 0, .int .i64 0, .int .i64 0, .int .i64 0, .int .i64 0, .int .i64 0, .int .i64 0, .int .i64 0, .int .i64 0, .int .i64 0] t)).cell? ⟨w.heap.size + 2, i, none⟩ = some (.int .i64 0)) ∧
    (∀ i, i < 16 → (((w.alloc (.cells (mats a) t)).alloc (.cells (mats b) t)).alloc (.cells #[.int .i64 0, .int .i64 0, .int .i64 0, .int .i64 0, .int .i64 0, .int .i64 0, .int .i64 0, .int .i64 0, .int .i64 0, .int .i64 0, .int .i64 0, .int .i64 0, .int .i64 0, .int .i64 0, .int .i64 0, .int .i64 0] t)).frozen? ⟨w.heap.size + 2, i, none⟩ = false) := by
  have BB : Below w.heap.size w w := Below.refl _ _
  have hsz0 : w.heap.size = w.heap.size := by simp
  obtain ⟨B, BB⟩ := box_on BB (mats a) t
  have M0 := mat_box w a t
  have Z0 := mat_boxz w a t
  rw [hsz0] at M0 Z0
  have hsz1 : (w.alloc (.cells (mats a) t)).heap.size = w.heap.size + 1 := by simp
  obtain ⟨B, BB⟩ := box_on BB (mats b) t
  replace Z0 := matz_below B M0 Z0
  replace M0 := mat_below B M0
  have M1 := mat_box (w.alloc (.cells (mats a) t)) b t
  have Z1 := mat_boxz (w.alloc (.cells (mats a) t)) b t
  rw [hsz1] at M1 Z1
  have hsz2 : ((w.alloc (.cells (mats a) t)).alloc (.cells (mats b) t)).heap.size = w.heap.size + 2 := by simp
  obtain ⟨B, BB⟩ := box_on BB #[.int .i64 0, .int .i64 0, .int .i64 0, .int .i64 0, .int .i64 0, .int .i64 0, .int .i64 0, .int .i64 0, .int .i64 0, .int .i64 0, .int .i64 0, .int .i64 0, .int .i64 0, .int .i64 0, .int .i64 0, .int .i64 0] t
  replace Z0 := matz_below B M0 Z0
  replace Z1 := matz_below B M1 Z1
  replace M0 := mat_below B M0
  replace M1 := mat_below B M1
  have M2 := mat_box ((w.alloc (.cells (mats a) t)).alloc (.cells (mats b) t)) (fun _ => 0) t
  have Z2 := mat_boxz ((w.alloc (.cells (mats a) t)).alloc (.cells (mats b) t)) (fun _ => 0) t
  rw [hsz2] at M2 Z2
  exact ⟨BB, M0, M1, M2, Z2⟩

theorem argsMv (w : World) (a : Nat → Int) (b : Nat → Int) (t : TypeId) :
    Below w.heap.size w ((((w.alloc (.cells (mats a) t)).alloc (.cells (mats b) t)).alloc (.cells #[.int .i64 0, .int .i64 0, .int .i64 0, .int .i64 0, .int .i64 0, .int .i64 0, .int .i64 0, .int .i64 0, .int .i64 0, .int .i64 0, .int .i64 0, .int .i64 0, .int .i64 0, .int .i64 0, .int .i64 0, .int .i64 0] t)).alloc (.cells #[.int .i64 0, .int .i64 0, .int .i64 0, .int .i64 0, .int .i64 0, .int .i64 0, .int .i64 0, .int .i64 0, .int .i64 0, .int .i64 0, .int .i64 0, .int .i64 0, .int .i64 0, .int .i64 0, .int .i64 0, .int .i64 0] t)) ∧
    (∀ i, i < 16 → ((((w.alloc (.cells (mats a) t)).alloc (.cells (mats b) t)).alloc (.cells #[.int .i64 0, .int .i64 0, .int .i64 0, .int .i64 0, .int .i64 0, .int .i64 0, .int .i64 0, .int .i64 0, .int .i64 0, .int .i64 0, .int .i64 0, .int .i64 0, .int .i64 0, .int .i64 0, .int .i64 0, .int .i64 0] t)).alloc (.cells #[.int .i64 0, .int .i64 0, .int .i64 0, .int .i64 0, .int .i64 0, .int .i64 0, .int .i64 0, .int .i64 0, .int .i64 0, .int .i64 0, .int .i64 0, .int .i64 0, .int .i64 0, .int .i64 0, .int .i64 0, .int .i64 0] t)).cell? ⟨w.heap.size, i, none⟩ = some (.int .i64 (a i))) ∧
    (∀ i, i < 16 → ((((w.alloc (.cells (mats a) t)).alloc (.cells (mats b) t)).alloc (.cells #[.int .i64 0, .int .i64 0, .int .i64 0, .int .i64 0, .int .i64 0, .int .i64 0, .int .i64 0, .int .i64 0, .int .i64 0, .int .i64 0, .int .i64 0, .int .i64 0, .int .i64 0, .int .i64 0, .int .i64 0, .int .i64 0] t)).alloc (.cells #[.int .i64 0, .int .i64 0, .int .i64 0, .int .i64 0, .int .i64 0, .int .i64 0, .int .i64 0, .int .i64 0, .int .i64 0, .int .i64 0, .int .i64 0, .int .i64 0, .int .i64 0, .int .i64 0, .int .i64 0, .int .i64 0] t)).cell? ⟨w.heap.size + 1, i, none⟩ = some (.int .i64 (b i))) ∧
    (∀ i, i < 16 → ((((w.alloc (.cells (mats a) t)).alloc (.cells (mats b) t)).alloc (.cells #[.int .i64 0, .int .i64 0, .int .i64 0, .int .i64 0, .int .i64 0, .int .i64 0, .int .i64 0, .int .i64 0, .int .i64 0, .int .i64 0, .int .i64 0, .int .i64 0, .int .i64 0, .int .i64 0, .int .i64 0, .int .i64 0] t)).alloc (.cells #[.int .i64 0, .int .i64 0, .int .i64 0, .int .i64 0, .int .i64 0, .int .i64 0, .int .i64 0, .int .i64 0, .int .i64 0, .int .i64 0, .int .i64 0, .int .i64 0, .int .i64 0, .int .i64 0, .int .i64 0, .int .i64 0] t)).cell? ⟨w.heap.size + 2, i, none⟩ = some (.int .i64 0)) ∧
    (∀ i, i < 16 → ((((w.alloc (.cells (mats a) t)).alloc (.cells (mats b) t)).alloc (.cells #[.int .i64 0, .int .i64 0, .int .i64 0, .int .i64 0, .int .i64 0, .int .i64 0, .int .i64 0, .int .i64 0, .int .i64 0, .int .i64 0, .int .i64 0, .int .i64 0, .int .i64 0, .int .i64 0, .int .i64 0, .int .i64 0] t)).alloc (.cells #[.int .i64 0, .int .i64 0, .int .i64 0, .int .i64 0, .int .i64 0, .int .i64 0, .int .i64 0, .int .i64 0, .int .i64 0, .int .i64 0, .int .i64 0, .int .i64 0, .int .i64 0, .int .i64 0, .int .i64 0, .int .i64 0] t)).cell? ⟨w.heap.size + 3, i, none⟩ = some (.int .i64 0)) ∧
    (∀ i, i < 16 → ((((w.alloc (.cells (mats a) t)).alloc (.cells (mats b) t)).alloc (.cells #[.int .i64 0, .int .i64 0, .int .i64 0, .int .i64 0, .int .i64 0, .int .i64 0, .int .i64 0, .int .i64 0, .int .i64 0, .int .i64 0, .int .i64 0, .int .i64 0, .int .i64 0, .int .i64 0, .int .i64 0, .int .i64 0] t)).alloc (.cells #[.int .i64 0, .int .i64 0, .int .i64 0, .int .i64 0, .int .i64 0, .int .i64 0, .int .i64 0, .int .i64 0, .int .i64 0, .int .i64 0, .int .i64 0, .int .i64 0, .int .i64 0, .int .i64 0, .int .i64 0, .int .i64 0] t)).frozen? ⟨w.heap.size + 2, i, none⟩ = false) ∧
    (∀ i, i < 16 → ((((w.alloc (.cells (mats a) t)).alloc (.cells (mats b) t)).alloc (.cells #[.int .i64 0, .int .i64 0, .int .i64 0, .int .i64 0, .int .i64 0, .int .i64 0, .int .i64 0, .int .i64 0, .int .i64 0, .int .i64 0, .int .i64 0, .int .i64 0, .int .i64 0, .int .i64 0, .int .i64 0, .int .i64 0] t)).alloc (.cells #[.int .i64 0, .int .i64 0, .int .i64 0, .int .i64 0, .int .i64 0, .int .i64 0, .int .i64 0, .int .i64 0, .int .i64 0, .int .i64 0, .int .i64 0, .int .i64 0, .int .i64 0, .int .i64 0, .int .i64 0, .int .i64 0] t)).frozen? ⟨w.heap.size + 3, i, none⟩ = false) := by
  have BB : Below w.heap.size w w := Below.refl _ _
  have hsz0 : w.heap.size = w.heap.size := by simp
  obtain ⟨B, BB⟩ := box_on BB (mats a) t
  have M0 := mat_box w a t
  have Z0 := mat_boxz w a t
  rw [hsz0] at M0 Z0
  have hsz1 : (w.alloc (.cells (mats a) t)).heap.size = w.heap.size + 1 := by simp
  obtain ⟨B, BB⟩ := box_on BB (mats b) t
  replace Z0 := matz_below B M0 Z0
  replace M0 := mat_below B M0
  have M1 := mat_box (w.alloc (.cells (mats a) t)) b t
  have Z1 := mat_boxz (w.alloc (.cells (mats a) t)) b t
  rw [hsz1] at M1 Z1
  have hsz2 : ((w.alloc (.cells (mats a) t)).alloc (.cells (mats b) t)).heap.size = w.heap.size + 2 := by simp
  obtain ⟨B, BB⟩ := box_on BB #[.int .i64 0, .int .i64 0, .int .i64 0, .int .i64 0, .int .i64 0, .int .i64 0, .int .i64 0, .int .i64 0, .int .i64 0, .int .i64 0, .int .i64 0, .int .i64 0, .int .i64 0, .int .i64 0, .int .i64 0, .int .i64 0] t
  replace Z0 := matz_below B M0 Z0
  replace Z1 := matz_below B M1 Z1
  replace M0 := mat_below B M0
  replace M1 := mat_below B M1
  have M2 := mat_box ((w.alloc (.cells (mats a) t)).alloc (.cells (mats b) t)) (fun _ => 0) t
  have Z2 := mat_boxz ((w.alloc (.cells (mats a) t)).alloc (.cells (mats b) t)) (fun _ => 0) t
  rw [hsz2] at M2 Z2
  have hsz3 : (((w.alloc (.cells (mats a) t)).alloc (.cells (mats b) t)).alloc (.cells #[.int .i64 0, .int .i64 0, .int .i64 0, .int .i64 0, .int .i64 0, .int .i64 0, .int .i64 0, .int .i64 0, .int .i64 0, .int .i64 0, .int .i64 0, .int .i64 0, .int .i64 0, .int .i64 0, .int .i64 0, .int .i64 0] t)).heap.size = w.heap.size + 3 := by simp
  obtain ⟨B, BB⟩ := box_on BB #[.int .i64 0, .int .i64 0, .int .i64 0, .int .i64 0, .int .i64 0, .int .i64 0, .int .i64 0, .int .i64 0, .int .i64 0, .int .i64 0, .int .i64 0, .int .i64 0, .int .i64 0, .int .i64 0, .int .i64 0, .int .i64 0] t
  replace Z0 := matz_below B M0 Z0
  replace Z1 := matz_below B M1 Z1
  replace Z2 := matz_below B M2 Z2
  replace M0 := mat_below B M0
  replace M1 := mat_below B M1
  replace M2 := mat_below B M2
  have M3 := mat_box (((w.alloc (.cells (mats a) t)).alloc (.cells (mats b) t)).alloc (.cells #[.int .i64 0, .int .i64 0, .int .i64 0, .int .i64 0, .int .i64 0, .int .i64 0, .int .i64 0, .int .i64 0, .int .i64 0, .int .i64 0, .int .i64 0, .int .i64 0, .int .i64 0, .int .i64 0, .int .i64 0, .int .i64 0] t)) (fun _ => 0) t
  have Z3 := mat_boxz (((w.alloc (.cells (mats a) t)).alloc (.cells (mats b) t)).alloc (.cells #[.int .i64 0, .int .i64 0, .int .i64 0, .int .i64 0, .int .i64 0, .int .i64 0, .int .i64 0, .int .i64 0, .int .i64 0, .int .i64 0, .int .i64 0, .int .i64 0, .int .i64 0, .int .i64 0, .int .i64 0, .int .i64 0] t)) (fun _ => 0) t
  rw [hsz3] at M3 Z3
  exact ⟨BB, M0, M1, M2, M3, Z2, Z3⟩

def MS (w : World) (a b : Nat → Int) (cb pb : Nat) (g : Nat → Int) (W : World) : Prop := Below w.heap.size w W ∧ (∀ i, i < 16 → W.cell? ⟨w.heap.size, i, none⟩ = some (.int .i64 (a i))) ∧ (∀ i, i < 16 → W.cell? ⟨w.heap.size + 2, i, none⟩ = some (.int .i64 0)) ∧ (∀ i, i < 16 → W.cell? ⟨cb, i, none⟩ = some (.int .i64 ((tr b) i))) ∧ (∀ i, i < 16 → W.cell? ⟨pb, i, none⟩ = some (.int .i64 (g i))) ∧ (∀ i, i < 16 → W.frozen? ⟨w.heap.size + 2, i, none⟩ = false) ∧ (∀ i, i < 16 → W.frozen? ⟨pb, i, none⟩ = false)
def MR (w : World) (a b g : Nat → Int) (W : World) : Prop := Below w.heap.size w W ∧ (∀ i, i < 16 → W.cell? ⟨w.heap.size, i, none⟩ = some (.int .i64 (a i))) ∧ (∀ i, i < 16 → W.cell? ⟨w.heap.size + 1, i, none⟩ = some (.int .i64 (b i))) ∧ (∀ i, i < 16 → W.cell? ⟨w.heap.size + 2, i, none⟩ = some (.int .i64 0)) ∧ (∀ i, i < 16 → W.cell? ⟨w.heap.size + 2 + 1, i, none⟩ = some (.int .i64 (g i))) ∧ (∀ i, i < 16 → W.frozen? ⟨w.heap.size + 2, i, none⟩ = false) ∧ (∀ i, i < 16 → W.frozen? ⟨w.heap.size + 2 + 1, i, none⟩ = false)

set_option maxRecDepth 100000 in
set_option maxHeartbeats 8000000 in
theorem mmul_b (a b : Nat → Int) (w : World) :
    Calls Try.prog 14 #[.agg (mats a), .agg (mats b)] w fun e w' => e = .returned (.agg (mats (mulm a b))) ∧ Below w.heap.size w w' := by
  obtain ⟨BB, M0, M1, M2, Z2⟩ := argsMu w a b 23
  go_enter Try.func14, Try.ntmps14
  go_wp2_with (first | (first | (refine wpList_mload rfl _ _ rfl matT M0 rfl ?_; go_simp) | (refine wpList_mload rfl _ _ rfl matT M1 rfl ?_; go_simp) | (refine wpList_mload rfl _ _ rfl matT M2 rfl ?_; go_simp)) | (go_at_call 16; refine (transpose_b _ _).mono ?_; rintro _ W1 ⟨rfl, B⟩; have hs1 := B.size; simp at hs1; (replace BB := bon BB B; replace Z2 := matz_below B M2 Z2; replace M0 := mat_below B M0; replace M1 := mat_below B M1; replace M2 := mat_below B M2); clear B M1) | (refine wpList_mfill rfl _ _ _ rfl (tr b) matT rfl rfl ?_; go_simp))
  obtain ⟨B, BB⟩ := box_on BB ((mats (tr b))) 23
  have M3 := mat_box W1 (tr b) 23
  replace Z2 := matz_below B M2 Z2
  replace M0 := mat_below B M0
  replace M2 := mat_below B M2
  obtain ⟨B, BB⟩ := box_on BB #[.int .i64 ((fun _ => 0) 0), .int .i64 ((fun _ => 0) 1), .int .i64 ((fun _ => 0) 2), .int .i64 ((fun _ => 0) 3), .int .i64 ((fun _ => 0) 4), .int .i64 ((fun _ => 0) 5), .int .i64 ((fun _ => 0) 6), .int .i64 ((fun _ => 0) 7), .int .i64 ((fun _ => 0) 8), .int .i64 ((fun _ => 0) 9), .int .i64 ((fun _ => 0) 10), .int .i64 ((fun _ => 0) 11), .int .i64 ((fun _ => 0) 12), .int .i64 ((fun _ => 0) 13), .int .i64 ((fun _ => 0) 14), .int .i64 ((fun _ => 0) 15)] 23
  have M4 := mat_box (W1.alloc (.cells ((mats (tr b))) 23)) (fun _ => 0) 23
  have Z4 := mat_boxz (W1.alloc (.cells ((mats (tr b))) 23)) (fun _ => 0) 23
  replace Z2 := matz_below B M2 Z2
  replace M0 := mat_below B M0
  replace M2 := mat_below B M2
  replace M3 := mat_below B M3
  replace M4 := zero_upto (mulm a b) M4
  have hz : (W1.alloc (.cells ((mats (tr b))) 23)).heap.size = W1.heap.size + 1 := by simp
  rw [hz] at M4 Z4
  refine letter (S := MS w a b W1.heap.size (W1.heap.size + 1) (upto (mulm a b) 0)) ?_ ⟨BB, M0, M2, M3, M4, Z2, Z4⟩
  clear BB M0 M2 M3 M4 Z2 Z4 B hz
  have HH := Lib.hid hs1
  clear hs1
  generalize W1.heap.size = cb at *
  intro W HT
  replace HT := Lib.hid HT
  go_loopw [11] (fun i W => ((i = .int .i64 0 ∧ MS w a b cb (cb + 1) (upto (mulm a b) 0) W) ∨ (i = .int .i64 1 ∧ MS w a b cb (cb + 1) (upto (mulm a b) 4) W) ∨ (i = .int .i64 2 ∧ MS w a b cb (cb + 1) (upto (mulm a b) 8) W) ∨ (i = .int .i64 3 ∧ MS w a b cb (cb + 1) (upto (mulm a b) 12) W) ∨ (i = .int .i64 4 ∧ MS w a b cb (cb + 1) (upto (mulm a b) 16) W))) (fun i _ => (4 - intOf i).toNat)
  case atStart => exact .inl ⟨rfl, HT.out⟩
  case round =>
    clear HT
    obtain ⟨wo, rfl⟩ : ∃ wo : World, wo = wr := ⟨_, rfl⟩
    rcases hrel with ⟨rfl, hT⟩ | ⟨rfl, hT⟩ | ⟨rfl, hT⟩ | ⟨rfl, hT⟩ | ⟨rfl, hT⟩
    · have HT := Lib.hid hT
      clear hT
      go_wp2_with fail
      go_loopw [14] (fun i W => ((i = .int .i64 0 ∧ MS w a b cb (cb + 1) (upto (mulm a b) 0) W) ∨ (i = .int .i64 1 ∧ MS w a b cb (cb + 1) (upto (mulm a b) 1) W) ∨ (i = .int .i64 2 ∧ MS w a b cb (cb + 1) (upto (mulm a b) 2) W) ∨ (i = .int .i64 3 ∧ MS w a b cb (cb + 1) (upto (mulm a b) 3) W) ∨ (i = .int .i64 4 ∧ MS w a b cb (cb + 1) (upto (mulm a b) 4) W))) (fun i _ => (4 - intOf i).toNat)
      case atStart => exact .inl ⟨rfl, HT.out⟩
      case round =>
        clear HT
        rcases hrel with ⟨rfl, BB, M0, M2, M3, M4, Z2, Z4⟩ | ⟨rfl, BB, M0, M2, M3, M4, Z2, Z4⟩ | ⟨rfl, BB, M0, M2, M3, M4, Z2, Z4⟩ | ⟨rfl, BB, M0, M2, M3, M4, Z2, Z4⟩ | ⟨rfl, hT⟩
        · go_wp2_with fail
          have k_M0 := mat_regrown M0
          have k_M3 := mat_regrown M3
          have k_M2 := mat_regrown M2
          have k_M4 := mat_regrown M4
          refine wp_region_tail (n := 12) (by kernel_rfl) (by kernel_rfl) ?_
          simp only [List.take_succ_cons, List.take_zero, List.drop_succ_cons, List.drop_zero]
          repeat (first | (go_big_quiet_want; refine quiet_mload _ _ rfl matT (fun W hW => mat_class M0 hW) rfl ?_; go_simp; go_big_quiet_on) | (go_big_quiet_want; refine quiet_mload _ _ rfl matT (fun W hW => mat_class M3 hW) rfl ?_; go_simp; go_big_quiet_on) | (go_big_quiet_want; refine quiet_mload _ _ rfl matT (fun W hW => mat_class M2 hW) rfl ?_; go_simp; go_big_quiet_on) | (go_big_quiet_want; refine quiet_mload _ _ rfl matT (fun W hW => mat_class M4 hW) rfl ?_; go_simp; go_big_quiet_on) | go_big_quiet_step ((first | (go_at_call 10; exact Calls.regrown_of (row_b _ _ _)) | (go_at_call 37; exact Calls.regrown_of (dot_b _ _ _ _ _ _ _ _ _)))) | quiet_step ((first | (go_at_call 10; exact Calls.regrown_of (row_b _ _ _)) | (go_at_call 37; exact Calls.regrown_of (dot_b _ _ _ _ _ _ _ _ _)))))
          refine wpQuiet_nil ?_
          intro W hw'
          have B := below_regrown' hw'
          clear hw' k_M0 k_M3 k_M2 k_M4
          replace BB := bon BB B
          replace Z2 := matz_below B M2 Z2
          replace Z4 := matz_below B M4 Z4
          replace M0 := mat_below B M0
          replace M3 := mat_below B M3
          replace M2 := mat_below B M2
          replace M4 := mat_below B M4
          go_wp2_with fail
          go_roundw
          case rel => exact .inr (.inl ⟨rfl, BB.setCell (by have := HH.out; show w.heap.size ≤ cb + 1; omega) _, mat_set_far M0 (by have := HH.out; omega), mat_set_far M2 (by have := HH.out; omega), mat_set_far M3 (by omega), upto_set M4 (by decide) rfl, matz_set Z2, matz_set Z4⟩)
          case measure => simp [intOf]
        · go_wp2_with fail
          have k_M0 := mat_regrown M0
          have k_M3 := mat_regrown M3
          have k_M2 := mat_regrown M2
          have k_M4 := mat_regrown M4
          refine wp_region_tail (n := 12) (by kernel_rfl) (by kernel_rfl) ?_
          simp only [List.take_succ_cons, List.take_zero, List.drop_succ_cons, List.drop_zero]
          repeat (first | (go_big_quiet_want; refine quiet_mload _ _ rfl matT (fun W hW => mat_class M0 hW) rfl ?_; go_simp; go_big_quiet_on) | (go_big_quiet_want; refine quiet_mload _ _ rfl matT (fun W hW => mat_class M3 hW) rfl ?_; go_simp; go_big_quiet_on) | (go_big_quiet_want; refine quiet_mload _ _ rfl matT (fun W hW => mat_class M2 hW) rfl ?_; go_simp; go_big_quiet_on) | (go_big_quiet_want; refine quiet_mload _ _ rfl matT (fun W hW => mat_class M4 hW) rfl ?_; go_simp; go_big_quiet_on) | go_big_quiet_step ((first | (go_at_call 10; exact Calls.regrown_of (row_b _ _ _)) | (go_at_call 37; exact Calls.regrown_of (dot_b _ _ _ _ _ _ _ _ _)))) | quiet_step ((first | (go_at_call 10; exact Calls.regrown_of (row_b _ _ _)) | (go_at_call 37; exact Calls.regrown_of (dot_b _ _ _ _ _ _ _ _ _)))))
          refine wpQuiet_nil ?_
          intro W hw'
          have B := below_regrown' hw'
          clear hw' k_M0 k_M3 k_M2 k_M4
          replace BB := bon BB B
          replace Z2 := matz_below B M2 Z2
          replace Z4 := matz_below B M4 Z4
          replace M0 := mat_below B M0
          replace M3 := mat_below B M3
          replace M2 := mat_below B M2
          replace M4 := mat_below B M4
          go_wp2_with fail
          go_roundw
          case rel => exact .inr (.inr (.inl ⟨rfl, BB.setCell (by have := HH.out; show w.heap.size ≤ cb + 1; omega) _, mat_set_far M0 (by have := HH.out; omega), mat_set_far M2 (by have := HH.out; omega), mat_set_far M3 (by omega), upto_set M4 (by decide) rfl, matz_set Z2, matz_set Z4⟩))
          case measure => simp [intOf]
        · go_wp2_with fail
          have k_M0 := mat_regrown M0
          have k_M3 := mat_regrown M3
          have k_M2 := mat_regrown M2
          have k_M4 := mat_regrown M4
          refine wp_region_tail (n := 12) (by kernel_rfl) (by kernel_rfl) ?_
          simp only [List.take_succ_cons, List.take_zero, List.drop_succ_cons, List.drop_zero]
          repeat (first | (go_big_quiet_want; refine quiet_mload _ _ rfl matT (fun W hW => mat_class M0 hW) rfl ?_; go_simp; go_big_quiet_on) | (go_big_quiet_want; refine quiet_mload _ _ rfl matT (fun W hW => mat_class M3 hW) rfl ?_; go_simp; go_big_quiet_on) | (go_big_quiet_want; refine quiet_mload _ _ rfl matT (fun W hW => mat_class M2 hW) rfl ?_; go_simp; go_big_quiet_on) | (go_big_quiet_want; refine quiet_mload _ _ rfl matT (fun W hW => mat_class M4 hW) rfl ?_; go_simp; go_big_quiet_on) | go_big_quiet_step ((first | (go_at_call 10; exact Calls.regrown_of (row_b _ _ _)) | (go_at_call 37; exact Calls.regrown_of (dot_b _ _ _ _ _ _ _ _ _)))) | quiet_step ((first | (go_at_call 10; exact Calls.regrown_of (row_b _ _ _)) | (go_at_call 37; exact Calls.regrown_of (dot_b _ _ _ _ _ _ _ _ _)))))
          refine wpQuiet_nil ?_
          intro W hw'
          have B := below_regrown' hw'
          clear hw' k_M0 k_M3 k_M2 k_M4
          replace BB := bon BB B
          replace Z2 := matz_below B M2 Z2
          replace Z4 := matz_below B M4 Z4
          replace M0 := mat_below B M0
          replace M3 := mat_below B M3
          replace M2 := mat_below B M2
          replace M4 := mat_below B M4
          go_wp2_with fail
          go_roundw
          case rel => exact .inr (.inr (.inr (.inl ⟨rfl, BB.setCell (by have := HH.out; show w.heap.size ≤ cb + 1; omega) _, mat_set_far M0 (by have := HH.out; omega), mat_set_far M2 (by have := HH.out; omega), mat_set_far M3 (by omega), upto_set M4 (by decide) rfl, matz_set Z2, matz_set Z4⟩)))
          case measure => simp [intOf]
        · go_wp2_with fail
          have k_M0 := mat_regrown M0
          have k_M3 := mat_regrown M3
          have k_M2 := mat_regrown M2
          have k_M4 := mat_regrown M4
          refine wp_region_tail (n := 12) (by kernel_rfl) (by kernel_rfl) ?_
          simp only [List.take_succ_cons, List.take_zero, List.drop_succ_cons, List.drop_zero]
          repeat (first | (go_big_quiet_want; refine quiet_mload _ _ rfl matT (fun W hW => mat_class M0 hW) rfl ?_; go_simp; go_big_quiet_on) | (go_big_quiet_want; refine quiet_mload _ _ rfl matT (fun W hW => mat_class M3 hW) rfl ?_; go_simp; go_big_quiet_on) | (go_big_quiet_want; refine quiet_mload _ _ rfl matT (fun W hW => mat_class M2 hW) rfl ?_; go_simp; go_big_quiet_on) | (go_big_quiet_want; refine quiet_mload _ _ rfl matT (fun W hW => mat_class M4 hW) rfl ?_; go_simp; go_big_quiet_on) | go_big_quiet_step ((first | (go_at_call 10; exact Calls.regrown_of (row_b _ _ _)) | (go_at_call 37; exact Calls.regrown_of (dot_b _ _ _ _ _ _ _ _ _)))) | quiet_step ((first | (go_at_call 10; exact Calls.regrown_of (row_b _ _ _)) | (go_at_call 37; exact Calls.regrown_of (dot_b _ _ _ _ _ _ _ _ _)))))
          refine wpQuiet_nil ?_
          intro W hw'
          have B := below_regrown' hw'
          clear hw' k_M0 k_M3 k_M2 k_M4
          replace BB := bon BB B
          replace Z2 := matz_below B M2 Z2
          replace Z4 := matz_below B M4 Z4
          replace M0 := mat_below B M0
          replace M3 := mat_below B M3
          replace M2 := mat_below B M2
          replace M4 := mat_below B M4
          go_wp2_with fail
          go_roundw
          case rel => exact .inr (.inr (.inr (.inr (⟨rfl, BB.setCell (by have := HH.out; show w.heap.size ≤ cb + 1; omega) _, mat_set_far M0 (by have := HH.out; omega), mat_set_far M2 (by have := HH.out; omega), mat_set_far M3 (by omega), upto_set M4 (by decide) rfl, matz_set Z2, matz_set Z4⟩))))
          case measure => simp [intOf]
        · have HT := Lib.hid hT
          clear hT
          go_wp2_with fail
          go_roundw
          case rel => exact .inr (.inl ⟨rfl, HT.out⟩)
          case measure => simp [intOf]
    · have HT := Lib.hid hT
      clear hT
      go_wp2_with fail
      go_loopw [14] (fun i W => ((i = .int .i64 0 ∧ MS w a b cb (cb + 1) (upto (mulm a b) 4) W) ∨ (i = .int .i64 1 ∧ MS w a b cb (cb + 1) (upto (mulm a b) 5) W) ∨ (i = .int .i64 2 ∧ MS w a b cb (cb + 1) (upto (mulm a b) 6) W) ∨ (i = .int .i64 3 ∧ MS w a b cb (cb + 1) (upto (mulm a b) 7) W) ∨ (i = .int .i64 4 ∧ MS w a b cb (cb + 1) (upto (mulm a b) 8) W))) (fun i _ => (4 - intOf i).toNat)
      case atStart => exact .inl ⟨rfl, HT.out⟩
      case round =>
        clear HT
        rcases hrel with ⟨rfl, BB, M0, M2, M3, M4, Z2, Z4⟩ | ⟨rfl, BB, M0, M2, M3, M4, Z2, Z4⟩ | ⟨rfl, BB, M0, M2, M3, M4, Z2, Z4⟩ | ⟨rfl, BB, M0, M2, M3, M4, Z2, Z4⟩ | ⟨rfl, hT⟩
        · go_wp2_with fail
          have k_M0 := mat_regrown M0
          have k_M3 := mat_regrown M3
          have k_M2 := mat_regrown M2
          have k_M4 := mat_regrown M4
          refine wp_region_tail (n := 12) (by kernel_rfl) (by kernel_rfl) ?_
          simp only [List.take_succ_cons, List.take_zero, List.drop_succ_cons, List.drop_zero]
          repeat (first | (go_big_quiet_want; refine quiet_mload _ _ rfl matT (fun W hW => mat_class M0 hW) rfl ?_; go_simp; go_big_quiet_on) | (go_big_quiet_want; refine quiet_mload _ _ rfl matT (fun W hW => mat_class M3 hW) rfl ?_; go_simp; go_big_quiet_on) | (go_big_quiet_want; refine quiet_mload _ _ rfl matT (fun W hW => mat_class M2 hW) rfl ?_; go_simp; go_big_quiet_on) | (go_big_quiet_want; refine quiet_mload _ _ rfl matT (fun W hW => mat_class M4 hW) rfl ?_; go_simp; go_big_quiet_on) | go_big_quiet_step ((first | (go_at_call 10; exact Calls.regrown_of (row_b _ _ _)) | (go_at_call 37; exact Calls.regrown_of (dot_b _ _ _ _ _ _ _ _ _)))) | quiet_step ((first | (go_at_call 10; exact Calls.regrown_of (row_b _ _ _)) | (go_at_call 37; exact Calls.regrown_of (dot_b _ _ _ _ _ _ _ _ _)))))
          refine wpQuiet_nil ?_
          intro W hw'
          have B := below_regrown' hw'
          clear hw' k_M0 k_M3 k_M2 k_M4
          replace BB := bon BB B
          replace Z2 := matz_below B M2 Z2
          replace Z4 := matz_below B M4 Z4
          replace M0 := mat_below B M0
          replace M3 := mat_below B M3
          replace M2 := mat_below B M2
          replace M4 := mat_below B M4
          go_wp2_with fail
          go_roundw
          case rel => exact .inr (.inl ⟨rfl, BB.setCell (by have := HH.out; show w.heap.size ≤ cb + 1; omega) _, mat_set_far M0 (by have := HH.out; omega), mat_set_far M2 (by have := HH.out; omega), mat_set_far M3 (by omega), upto_set M4 (by decide) rfl, matz_set Z2, matz_set Z4⟩)
          case measure => simp [intOf]
        · go_wp2_with fail
          have k_M0 := mat_regrown M0
          have k_M3 := mat_regrown M3
          have k_M2 := mat_regrown M2
          have k_M4 := mat_regrown M4
          refine wp_region_tail (n := 12) (by kernel_rfl) (by kernel_rfl) ?_
          simp only [List.take_succ_cons, List.take_zero, List.drop_succ_cons, List.drop_zero]
          repeat (first | (go_big_quiet_want; refine quiet_mload _ _ rfl matT (fun W hW => mat_class M0 hW) rfl ?_; go_simp; go_big_quiet_on) | (go_big_quiet_want; refine quiet_mload _ _ rfl matT (fun W hW => mat_class M3 hW) rfl ?_; go_simp; go_big_quiet_on) | (go_big_quiet_want; refine quiet_mload _ _ rfl matT (fun W hW => mat_class M2 hW) rfl ?_; go_simp; go_big_quiet_on) | (go_big_quiet_want; refine quiet_mload _ _ rfl matT (fun W hW => mat_class M4 hW) rfl ?_; go_simp; go_big_quiet_on) | go_big_quiet_step ((first | (go_at_call 10; exact Calls.regrown_of (row_b _ _ _)) | (go_at_call 37; exact Calls.regrown_of (dot_b _ _ _ _ _ _ _ _ _)))) | quiet_step ((first | (go_at_call 10; exact Calls.regrown_of (row_b _ _ _)) | (go_at_call 37; exact Calls.regrown_of (dot_b _ _ _ _ _ _ _ _ _)))))
          refine wpQuiet_nil ?_
          intro W hw'
          have B := below_regrown' hw'
          clear hw' k_M0 k_M3 k_M2 k_M4
          replace BB := bon BB B
          replace Z2 := matz_below B M2 Z2
          replace Z4 := matz_below B M4 Z4
          replace M0 := mat_below B M0
          replace M3 := mat_below B M3
          replace M2 := mat_below B M2
          replace M4 := mat_below B M4
          go_wp2_with fail
          go_roundw
          case rel => exact .inr (.inr (.inl ⟨rfl, BB.setCell (by have := HH.out; show w.heap.size ≤ cb + 1; omega) _, mat_set_far M0 (by have := HH.out; omega), mat_set_far M2 (by have := HH.out; omega), mat_set_far M3 (by omega), upto_set M4 (by decide) rfl, matz_set Z2, matz_set Z4⟩))
          case measure => simp [intOf]
        · go_wp2_with fail
          have k_M0 := mat_regrown M0
          have k_M3 := mat_regrown M3
          have k_M2 := mat_regrown M2
          have k_M4 := mat_regrown M4
          refine wp_region_tail (n := 12) (by kernel_rfl) (by kernel_rfl) ?_
          simp only [List.take_succ_cons, List.take_zero, List.drop_succ_cons, List.drop_zero]
          repeat (first | (go_big_quiet_want; refine quiet_mload _ _ rfl matT (fun W hW => mat_class M0 hW) rfl ?_; go_simp; go_big_quiet_on) | (go_big_quiet_want; refine quiet_mload _ _ rfl matT (fun W hW => mat_class M3 hW) rfl ?_; go_simp; go_big_quiet_on) | (go_big_quiet_want; refine quiet_mload _ _ rfl matT (fun W hW => mat_class M2 hW) rfl ?_; go_simp; go_big_quiet_on) | (go_big_quiet_want; refine quiet_mload _ _ rfl matT (fun W hW => mat_class M4 hW) rfl ?_; go_simp; go_big_quiet_on) | go_big_quiet_step ((first | (go_at_call 10; exact Calls.regrown_of (row_b _ _ _)) | (go_at_call 37; exact Calls.regrown_of (dot_b _ _ _ _ _ _ _ _ _)))) | quiet_step ((first | (go_at_call 10; exact Calls.regrown_of (row_b _ _ _)) | (go_at_call 37; exact Calls.regrown_of (dot_b _ _ _ _ _ _ _ _ _)))))
          refine wpQuiet_nil ?_
          intro W hw'
          have B := below_regrown' hw'
          clear hw' k_M0 k_M3 k_M2 k_M4
          replace BB := bon BB B
          replace Z2 := matz_below B M2 Z2
          replace Z4 := matz_below B M4 Z4
          replace M0 := mat_below B M0
          replace M3 := mat_below B M3
          replace M2 := mat_below B M2
          replace M4 := mat_below B M4
          go_wp2_with fail
          go_roundw
          case rel => exact .inr (.inr (.inr (.inl ⟨rfl, BB.setCell (by have := HH.out; show w.heap.size ≤ cb + 1; omega) _, mat_set_far M0 (by have := HH.out; omega), mat_set_far M2 (by have := HH.out; omega), mat_set_far M3 (by omega), upto_set M4 (by decide) rfl, matz_set Z2, matz_set Z4⟩)))
          case measure => simp [intOf]
        · go_wp2_with fail
          have k_M0 := mat_regrown M0
          have k_M3 := mat_regrown M3
          have k_M2 := mat_regrown M2
          have k_M4 := mat_regrown M4
          refine wp_region_tail (n := 12) (by kernel_rfl) (by kernel_rfl) ?_
          simp only [List.take_succ_cons, List.take_zero, List.drop_succ_cons, List.drop_zero]
          repeat (first | (go_big_quiet_want; refine quiet_mload _ _ rfl matT (fun W hW => mat_class M0 hW) rfl ?_; go_simp; go_big_quiet_on) | (go_big_quiet_want; refine quiet_mload _ _ rfl matT (fun W hW => mat_class M3 hW) rfl ?_; go_simp; go_big_quiet_on) | (go_big_quiet_want; refine quiet_mload _ _ rfl matT (fun W hW => mat_class M2 hW) rfl ?_; go_simp; go_big_quiet_on) | (go_big_quiet_want; refine quiet_mload _ _ rfl matT (fun W hW => mat_class M4 hW) rfl ?_; go_simp; go_big_quiet_on) | go_big_quiet_step ((first | (go_at_call 10; exact Calls.regrown_of (row_b _ _ _)) | (go_at_call 37; exact Calls.regrown_of (dot_b _ _ _ _ _ _ _ _ _)))) | quiet_step ((first | (go_at_call 10; exact Calls.regrown_of (row_b _ _ _)) | (go_at_call 37; exact Calls.regrown_of (dot_b _ _ _ _ _ _ _ _ _)))))
          refine wpQuiet_nil ?_
          intro W hw'
          have B := below_regrown' hw'
          clear hw' k_M0 k_M3 k_M2 k_M4
          replace BB := bon BB B
          replace Z2 := matz_below B M2 Z2
          replace Z4 := matz_below B M4 Z4
          replace M0 := mat_below B M0
          replace M3 := mat_below B M3
          replace M2 := mat_below B M2
          replace M4 := mat_below B M4
          go_wp2_with fail
          go_roundw
          case rel => exact .inr (.inr (.inr (.inr (⟨rfl, BB.setCell (by have := HH.out; show w.heap.size ≤ cb + 1; omega) _, mat_set_far M0 (by have := HH.out; omega), mat_set_far M2 (by have := HH.out; omega), mat_set_far M3 (by omega), upto_set M4 (by decide) rfl, matz_set Z2, matz_set Z4⟩))))
          case measure => simp [intOf]
        · have HT := Lib.hid hT
          clear hT
          go_wp2_with fail
          go_roundw
          case rel => exact .inr (.inr (.inl ⟨rfl, HT.out⟩))
          case measure => simp [intOf]
    · have HT := Lib.hid hT
      clear hT
      go_wp2_with fail
      go_loopw [14] (fun i W => ((i = .int .i64 0 ∧ MS w a b cb (cb + 1) (upto (mulm a b) 8) W) ∨ (i = .int .i64 1 ∧ MS w a b cb (cb + 1) (upto (mulm a b) 9) W) ∨ (i = .int .i64 2 ∧ MS w a b cb (cb + 1) (upto (mulm a b) 10) W) ∨ (i = .int .i64 3 ∧ MS w a b cb (cb + 1) (upto (mulm a b) 11) W) ∨ (i = .int .i64 4 ∧ MS w a b cb (cb + 1) (upto (mulm a b) 12) W))) (fun i _ => (4 - intOf i).toNat)
      case atStart => exact .inl ⟨rfl, HT.out⟩
      case round =>
        clear HT
        rcases hrel with ⟨rfl, BB, M0, M2, M3, M4, Z2, Z4⟩ | ⟨rfl, BB, M0, M2, M3, M4, Z2, Z4⟩ | ⟨rfl, BB, M0, M2, M3, M4, Z2, Z4⟩ | ⟨rfl, BB, M0, M2, M3, M4, Z2, Z4⟩ | ⟨rfl, hT⟩
        · go_wp2_with fail
          have k_M0 := mat_regrown M0
          have k_M3 := mat_regrown M3
          have k_M2 := mat_regrown M2
          have k_M4 := mat_regrown M4
          refine wp_region_tail (n := 12) (by kernel_rfl) (by kernel_rfl) ?_
          simp only [List.take_succ_cons, List.take_zero, List.drop_succ_cons, List.drop_zero]
          repeat (first | (go_big_quiet_want; refine quiet_mload _ _ rfl matT (fun W hW => mat_class M0 hW) rfl ?_; go_simp; go_big_quiet_on) | (go_big_quiet_want; refine quiet_mload _ _ rfl matT (fun W hW => mat_class M3 hW) rfl ?_; go_simp; go_big_quiet_on) | (go_big_quiet_want; refine quiet_mload _ _ rfl matT (fun W hW => mat_class M2 hW) rfl ?_; go_simp; go_big_quiet_on) | (go_big_quiet_want; refine quiet_mload _ _ rfl matT (fun W hW => mat_class M4 hW) rfl ?_; go_simp; go_big_quiet_on) | go_big_quiet_step ((first | (go_at_call 10; exact Calls.regrown_of (row_b _ _ _)) | (go_at_call 37; exact Calls.regrown_of (dot_b _ _ _ _ _ _ _ _ _)))) | quiet_step ((first | (go_at_call 10; exact Calls.regrown_of (row_b _ _ _)) | (go_at_call 37; exact Calls.regrown_of (dot_b _ _ _ _ _ _ _ _ _)))))
          refine wpQuiet_nil ?_
          intro W hw'
          have B := below_regrown' hw'
          clear hw' k_M0 k_M3 k_M2 k_M4
          replace BB := bon BB B
          replace Z2 := matz_below B M2 Z2
          replace Z4 := matz_below B M4 Z4
          replace M0 := mat_below B M0
          replace M3 := mat_below B M3
          replace M2 := mat_below B M2
          replace M4 := mat_below B M4
          go_wp2_with fail
          go_roundw
          case rel => exact .inr (.inl ⟨rfl, BB.setCell (by have := HH.out; show w.heap.size ≤ cb + 1; omega) _, mat_set_far M0 (by have := HH.out; omega), mat_set_far M2 (by have := HH.out; omega), mat_set_far M3 (by omega), upto_set M4 (by decide) rfl, matz_set Z2, matz_set Z4⟩)
          case measure => simp [intOf]
        · go_wp2_with fail
          have k_M0 := mat_regrown M0
          have k_M3 := mat_regrown M3
          have k_M2 := mat_regrown M2
          have k_M4 := mat_regrown M4
          refine wp_region_tail (n := 12) (by kernel_rfl) (by kernel_rfl) ?_
          simp only [List.take_succ_cons, List.take_zero, List.drop_succ_cons, List.drop_zero]
          repeat (first | (go_big_quiet_want; refine quiet_mload _ _ rfl matT (fun W hW => mat_class M0 hW) rfl ?_; go_simp; go_big_quiet_on) | (go_big_quiet_want; refine quiet_mload _ _ rfl matT (fun W hW => mat_class M3 hW) rfl ?_; go_simp; go_big_quiet_on) | (go_big_quiet_want; refine quiet_mload _ _ rfl matT (fun W hW => mat_class M2 hW) rfl ?_; go_simp; go_big_quiet_on) | (go_big_quiet_want; refine quiet_mload _ _ rfl matT (fun W hW => mat_class M4 hW) rfl ?_; go_simp; go_big_quiet_on) | go_big_quiet_step ((first | (go_at_call 10; exact Calls.regrown_of (row_b _ _ _)) | (go_at_call 37; exact Calls.regrown_of (dot_b _ _ _ _ _ _ _ _ _)))) | quiet_step ((first | (go_at_call 10; exact Calls.regrown_of (row_b _ _ _)) | (go_at_call 37; exact Calls.regrown_of (dot_b _ _ _ _ _ _ _ _ _)))))
          refine wpQuiet_nil ?_
          intro W hw'
          have B := below_regrown' hw'
          clear hw' k_M0 k_M3 k_M2 k_M4
          replace BB := bon BB B
          replace Z2 := matz_below B M2 Z2
          replace Z4 := matz_below B M4 Z4
          replace M0 := mat_below B M0
          replace M3 := mat_below B M3
          replace M2 := mat_below B M2
          replace M4 := mat_below B M4
          go_wp2_with fail
          go_roundw
          case rel => exact .inr (.inr (.inl ⟨rfl, BB.setCell (by have := HH.out; show w.heap.size ≤ cb + 1; omega) _, mat_set_far M0 (by have := HH.out; omega), mat_set_far M2 (by have := HH.out; omega), mat_set_far M3 (by omega), upto_set M4 (by decide) rfl, matz_set Z2, matz_set Z4⟩))
          case measure => simp [intOf]
        · go_wp2_with fail
          have k_M0 := mat_regrown M0
          have k_M3 := mat_regrown M3
          have k_M2 := mat_regrown M2
          have k_M4 := mat_regrown M4
          refine wp_region_tail (n := 12) (by kernel_rfl) (by kernel_rfl) ?_
          simp only [List.take_succ_cons, List.take_zero, List.drop_succ_cons, List.drop_zero]
          repeat (first | (go_big_quiet_want; refine quiet_mload _ _ rfl matT (fun W hW => mat_class M0 hW) rfl ?_; go_simp; go_big_quiet_on) | (go_big_quiet_want; refine quiet_mload _ _ rfl matT (fun W hW => mat_class M3 hW) rfl ?_; go_simp; go_big_quiet_on) | (go_big_quiet_want; refine quiet_mload _ _ rfl matT (fun W hW => mat_class M2 hW) rfl ?_; go_simp; go_big_quiet_on) | (go_big_quiet_want; refine quiet_mload _ _ rfl matT (fun W hW => mat_class M4 hW) rfl ?_; go_simp; go_big_quiet_on) | go_big_quiet_step ((first | (go_at_call 10; exact Calls.regrown_of (row_b _ _ _)) | (go_at_call 37; exact Calls.regrown_of (dot_b _ _ _ _ _ _ _ _ _)))) | quiet_step ((first | (go_at_call 10; exact Calls.regrown_of (row_b _ _ _)) | (go_at_call 37; exact Calls.regrown_of (dot_b _ _ _ _ _ _ _ _ _)))))
          refine wpQuiet_nil ?_
          intro W hw'
          have B := below_regrown' hw'
          clear hw' k_M0 k_M3 k_M2 k_M4
          replace BB := bon BB B
          replace Z2 := matz_below B M2 Z2
          replace Z4 := matz_below B M4 Z4
          replace M0 := mat_below B M0
          replace M3 := mat_below B M3
          replace M2 := mat_below B M2
          replace M4 := mat_below B M4
          go_wp2_with fail
          go_roundw
          case rel => exact .inr (.inr (.inr (.inl ⟨rfl, BB.setCell (by have := HH.out; show w.heap.size ≤ cb + 1; omega) _, mat_set_far M0 (by have := HH.out; omega), mat_set_far M2 (by have := HH.out; omega), mat_set_far M3 (by omega), upto_set M4 (by decide) rfl, matz_set Z2, matz_set Z4⟩)))
          case measure => simp [intOf]
        · go_wp2_with fail
          have k_M0 := mat_regrown M0
          have k_M3 := mat_regrown M3
          have k_M2 := mat_regrown M2
          have k_M4 := mat_regrown M4
          refine wp_region_tail (n := 12) (by kernel_rfl) (by kernel_rfl) ?_
          simp only [List.take_succ_cons, List.take_zero, List.drop_succ_cons, List.drop_zero]
          repeat (first | (go_big_quiet_want; refine quiet_mload _ _ rfl matT (fun W hW => mat_class M0 hW) rfl ?_; go_simp; go_big_quiet_on) | (go_big_quiet_want; refine quiet_mload _ _ rfl matT (fun W hW => mat_class M3 hW) rfl ?_; go_simp; go_big_quiet_on) | (go_big_quiet_want; refine quiet_mload _ _ rfl matT (fun W hW => mat_class M2 hW) rfl ?_; go_simp; go_big_quiet_on) | (go_big_quiet_want; refine quiet_mload _ _ rfl matT (fun W hW => mat_class M4 hW) rfl ?_; go_simp; go_big_quiet_on) | go_big_quiet_step ((first | (go_at_call 10; exact Calls.regrown_of (row_b _ _ _)) | (go_at_call 37; exact Calls.regrown_of (dot_b _ _ _ _ _ _ _ _ _)))) | quiet_step ((first | (go_at_call 10; exact Calls.regrown_of (row_b _ _ _)) | (go_at_call 37; exact Calls.regrown_of (dot_b _ _ _ _ _ _ _ _ _)))))
          refine wpQuiet_nil ?_
          intro W hw'
          have B := below_regrown' hw'
          clear hw' k_M0 k_M3 k_M2 k_M4
          replace BB := bon BB B
          replace Z2 := matz_below B M2 Z2
          replace Z4 := matz_below B M4 Z4
          replace M0 := mat_below B M0
          replace M3 := mat_below B M3
          replace M2 := mat_below B M2
          replace M4 := mat_below B M4
          go_wp2_with fail
          go_roundw
          case rel => exact .inr (.inr (.inr (.inr (⟨rfl, BB.setCell (by have := HH.out; show w.heap.size ≤ cb + 1; omega) _, mat_set_far M0 (by have := HH.out; omega), mat_set_far M2 (by have := HH.out; omega), mat_set_far M3 (by omega), upto_set M4 (by decide) rfl, matz_set Z2, matz_set Z4⟩))))
          case measure => simp [intOf]
        · have HT := Lib.hid hT
          clear hT
          go_wp2_with fail
          go_roundw
          case rel => exact .inr (.inr (.inr (.inl ⟨rfl, HT.out⟩)))
          case measure => simp [intOf]
    · have HT := Lib.hid hT
      clear hT
      go_wp2_with fail
      go_loopw [14] (fun i W => ((i = .int .i64 0 ∧ MS w a b cb (cb + 1) (upto (mulm a b) 12) W) ∨ (i = .int .i64 1 ∧ MS w a b cb (cb + 1) (upto (mulm a b) 13) W) ∨ (i = .int .i64 2 ∧ MS w a b cb (cb + 1) (upto (mulm a b) 14) W) ∨ (i = .int .i64 3 ∧ MS w a b cb (cb + 1) (upto (mulm a b) 15) W) ∨ (i = .int .i64 4 ∧ MS w a b cb (cb + 1) (upto (mulm a b) 16) W))) (fun i _ => (4 - intOf i).toNat)
      case atStart => exact .inl ⟨rfl, HT.out⟩
      case round =>
        clear HT
        rcases hrel with ⟨rfl, BB, M0, M2, M3, M4, Z2, Z4⟩ | ⟨rfl, BB, M0, M2, M3, M4, Z2, Z4⟩ | ⟨rfl, BB, M0, M2, M3, M4, Z2, Z4⟩ | ⟨rfl, BB, M0, M2, M3, M4, Z2, Z4⟩ | ⟨rfl, hT⟩
        · go_wp2_with fail
          have k_M0 := mat_regrown M0
          have k_M3 := mat_regrown M3
          have k_M2 := mat_regrown M2
          have k_M4 := mat_regrown M4
          refine wp_region_tail (n := 12) (by kernel_rfl) (by kernel_rfl) ?_
          simp only [List.take_succ_cons, List.take_zero, List.drop_succ_cons, List.drop_zero]
          repeat (first | (go_big_quiet_want; refine quiet_mload _ _ rfl matT (fun W hW => mat_class M0 hW) rfl ?_; go_simp; go_big_quiet_on) | (go_big_quiet_want; refine quiet_mload _ _ rfl matT (fun W hW => mat_class M3 hW) rfl ?_; go_simp; go_big_quiet_on) | (go_big_quiet_want; refine quiet_mload _ _ rfl matT (fun W hW => mat_class M2 hW) rfl ?_; go_simp; go_big_quiet_on) | (go_big_quiet_want; refine quiet_mload _ _ rfl matT (fun W hW => mat_class M4 hW) rfl ?_; go_simp; go_big_quiet_on) | go_big_quiet_step ((first | (go_at_call 10; exact Calls.regrown_of (row_b _ _ _)) | (go_at_call 37; exact Calls.regrown_of (dot_b _ _ _ _ _ _ _ _ _)))) | quiet_step ((first | (go_at_call 10; exact Calls.regrown_of (row_b _ _ _)) | (go_at_call 37; exact Calls.regrown_of (dot_b _ _ _ _ _ _ _ _ _)))))
          refine wpQuiet_nil ?_
          intro W hw'
          have B := below_regrown' hw'
          clear hw' k_M0 k_M3 k_M2 k_M4
          replace BB := bon BB B
          replace Z2 := matz_below B M2 Z2
          replace Z4 := matz_below B M4 Z4
          replace M0 := mat_below B M0
          replace M3 := mat_below B M3
          replace M2 := mat_below B M2
          replace M4 := mat_below B M4
          go_wp2_with fail
          go_roundw
          case rel => exact .inr (.inl ⟨rfl, BB.setCell (by have := HH.out; show w.heap.size ≤ cb + 1; omega) _, mat_set_far M0 (by have := HH.out; omega), mat_set_far M2 (by have := HH.out; omega), mat_set_far M3 (by omega), upto_set M4 (by decide) rfl, matz_set Z2, matz_set Z4⟩)
          case measure => simp [intOf]
        · go_wp2_with fail
          have k_M0 := mat_regrown M0
          have k_M3 := mat_regrown M3
          have k_M2 := mat_regrown M2
          have k_M4 := mat_regrown M4
          refine wp_region_tail (n := 12) (by kernel_rfl) (by kernel_rfl) ?_
          simp only [List.take_succ_cons, List.take_zero, List.drop_succ_cons, List.drop_zero]
          repeat (first | (go_big_quiet_want; refine quiet_mload _ _ rfl matT (fun W hW => mat_class M0 hW) rfl ?_; go_simp; go_big_quiet_on) | (go_big_quiet_want; refine quiet_mload _ _ rfl matT (fun W hW => mat_class M3 hW) rfl ?_; go_simp; go_big_quiet_on) | (go_big_quiet_want; refine quiet_mload _ _ rfl matT (fun W hW => mat_class M2 hW) rfl ?_; go_simp; go_big_quiet_on) | (go_big_quiet_want; refine quiet_mload _ _ rfl matT (fun W hW => mat_class M4 hW) rfl ?_; go_simp; go_big_quiet_on) | go_big_quiet_step ((first | (go_at_call 10; exact Calls.regrown_of (row_b _ _ _)) | (go_at_call 37; exact Calls.regrown_of (dot_b _ _ _ _ _ _ _ _ _)))) | quiet_step ((first | (go_at_call 10; exact Calls.regrown_of (row_b _ _ _)) | (go_at_call 37; exact Calls.regrown_of (dot_b _ _ _ _ _ _ _ _ _)))))
          refine wpQuiet_nil ?_
          intro W hw'
          have B := below_regrown' hw'
          clear hw' k_M0 k_M3 k_M2 k_M4
          replace BB := bon BB B
          replace Z2 := matz_below B M2 Z2
          replace Z4 := matz_below B M4 Z4
          replace M0 := mat_below B M0
          replace M3 := mat_below B M3
          replace M2 := mat_below B M2
          replace M4 := mat_below B M4
          go_wp2_with fail
          go_roundw
          case rel => exact .inr (.inr (.inl ⟨rfl, BB.setCell (by have := HH.out; show w.heap.size ≤ cb + 1; omega) _, mat_set_far M0 (by have := HH.out; omega), mat_set_far M2 (by have := HH.out; omega), mat_set_far M3 (by omega), upto_set M4 (by decide) rfl, matz_set Z2, matz_set Z4⟩))
          case measure => simp [intOf]
        · go_wp2_with fail
          have k_M0 := mat_regrown M0
          have k_M3 := mat_regrown M3
          have k_M2 := mat_regrown M2
          have k_M4 := mat_regrown M4
          refine wp_region_tail (n := 12) (by kernel_rfl) (by kernel_rfl) ?_
          simp only [List.take_succ_cons, List.take_zero, List.drop_succ_cons, List.drop_zero]
          repeat (first | (go_big_quiet_want; refine quiet_mload _ _ rfl matT (fun W hW => mat_class M0 hW) rfl ?_; go_simp; go_big_quiet_on) | (go_big_quiet_want; refine quiet_mload _ _ rfl matT (fun W hW => mat_class M3 hW) rfl ?_; go_simp; go_big_quiet_on) | (go_big_quiet_want; refine quiet_mload _ _ rfl matT (fun W hW => mat_class M2 hW) rfl ?_; go_simp; go_big_quiet_on) | (go_big_quiet_want; refine quiet_mload _ _ rfl matT (fun W hW => mat_class M4 hW) rfl ?_; go_simp; go_big_quiet_on) | go_big_quiet_step ((first | (go_at_call 10; exact Calls.regrown_of (row_b _ _ _)) | (go_at_call 37; exact Calls.regrown_of (dot_b _ _ _ _ _ _ _ _ _)))) | quiet_step ((first | (go_at_call 10; exact Calls.regrown_of (row_b _ _ _)) | (go_at_call 37; exact Calls.regrown_of (dot_b _ _ _ _ _ _ _ _ _)))))
          refine wpQuiet_nil ?_
          intro W hw'
          have B := below_regrown' hw'
          clear hw' k_M0 k_M3 k_M2 k_M4
          replace BB := bon BB B
          replace Z2 := matz_below B M2 Z2
          replace Z4 := matz_below B M4 Z4
          replace M0 := mat_below B M0
          replace M3 := mat_below B M3
          replace M2 := mat_below B M2
          replace M4 := mat_below B M4
          go_wp2_with fail
          go_roundw
          case rel => exact .inr (.inr (.inr (.inl ⟨rfl, BB.setCell (by have := HH.out; show w.heap.size ≤ cb + 1; omega) _, mat_set_far M0 (by have := HH.out; omega), mat_set_far M2 (by have := HH.out; omega), mat_set_far M3 (by omega), upto_set M4 (by decide) rfl, matz_set Z2, matz_set Z4⟩)))
          case measure => simp [intOf]
        · go_wp2_with fail
          have k_M0 := mat_regrown M0
          have k_M3 := mat_regrown M3
          have k_M2 := mat_regrown M2
          have k_M4 := mat_regrown M4
          refine wp_region_tail (n := 12) (by kernel_rfl) (by kernel_rfl) ?_
          simp only [List.take_succ_cons, List.take_zero, List.drop_succ_cons, List.drop_zero]
          repeat (first | (go_big_quiet_want; refine quiet_mload _ _ rfl matT (fun W hW => mat_class M0 hW) rfl ?_; go_simp; go_big_quiet_on) | (go_big_quiet_want; refine quiet_mload _ _ rfl matT (fun W hW => mat_class M3 hW) rfl ?_; go_simp; go_big_quiet_on) | (go_big_quiet_want; refine quiet_mload _ _ rfl matT (fun W hW => mat_class M2 hW) rfl ?_; go_simp; go_big_quiet_on) | (go_big_quiet_want; refine quiet_mload _ _ rfl matT (fun W hW => mat_class M4 hW) rfl ?_; go_simp; go_big_quiet_on) | go_big_quiet_step ((first | (go_at_call 10; exact Calls.regrown_of (row_b _ _ _)) | (go_at_call 37; exact Calls.regrown_of (dot_b _ _ _ _ _ _ _ _ _)))) | quiet_step ((first | (go_at_call 10; exact Calls.regrown_of (row_b _ _ _)) | (go_at_call 37; exact Calls.regrown_of (dot_b _ _ _ _ _ _ _ _ _)))))
          refine wpQuiet_nil ?_
          intro W hw'
          have B := below_regrown' hw'
          clear hw' k_M0 k_M3 k_M2 k_M4
          replace BB := bon BB B
          replace Z2 := matz_below B M2 Z2
          replace Z4 := matz_below B M4 Z4
          replace M0 := mat_below B M0
          replace M3 := mat_below B M3
          replace M2 := mat_below B M2
          replace M4 := mat_below B M4
          go_wp2_with fail
          go_roundw
          case rel => exact .inr (.inr (.inr (.inr (⟨rfl, BB.setCell (by have := HH.out; show w.heap.size ≤ cb + 1; omega) _, mat_set_far M0 (by have := HH.out; omega), mat_set_far M2 (by have := HH.out; omega), mat_set_far M3 (by omega), upto_set M4 (by decide) rfl, matz_set Z2, matz_set Z4⟩))))
          case measure => simp [intOf]
        · have HT := Lib.hid hT
          clear hT
          go_wp2_with fail
          go_roundw
          case rel => exact .inr (.inr (.inr (.inr (⟨rfl, HT.out⟩))))
          case measure => simp [intOf]
    · obtain ⟨BB, M0, M2, M3, M4, Z2, Z4⟩ := hT
      replace M4 := mat_to M4 (upto_all (mulm a b))
      clear M0 M3
      go_wp2_with (first | (refine wpList_mload rfl _ _ rfl matT M4 rfl ?_; go_simp) | (refine wpList_mstore rfl 23 _ _ rfl (mulm a b) rfl rfl (m0 := fun _ => 0) M2 Z2 BB (by omega) matT ?_; intro W' BB' M' Z' _ _ _; clear M2 M4 Z2 Z4 BB))
      exact bodyPost_ret (results_mat Try.results14 matT M' _ rfl) rfl ⟨rfl, BB'⟩

set_option maxRecDepth 100000 in
set_option maxHeartbeats 8000000 in
theorem rmmul_b (a b : Nat → Int) (w : World) :
    Calls Try.prog 15 #[.agg (mats a), .agg (mats b)] w fun e w' => e = .returned (.agg (mats (mulm a b))) ∧ Below w.heap.size w w' := by
  obtain ⟨BB, M0, M1, M2, M3, Z2, Z3⟩ := argsMv w a b 23
  go_enter Try.func15, Try.ntmps15
  go_wp2_with fail
  go_loopw [6] (fun i W => ((i = .int .i64 0 ∧ MR w a b (upto (mulm a b) 0) W) ∨ (i = .int .i64 1 ∧ MR w a b (upto (mulm a b) 1) W) ∨ (i = .int .i64 2 ∧ MR w a b (upto (mulm a b) 2) W) ∨ (i = .int .i64 3 ∧ MR w a b (upto (mulm a b) 3) W) ∨ (i = .int .i64 4 ∧ MR w a b (upto (mulm a b) 4) W) ∨ (i = .int .i64 5 ∧ MR w a b (upto (mulm a b) 5) W) ∨ (i = .int .i64 6 ∧ MR w a b (upto (mulm a b) 6) W) ∨ (i = .int .i64 7 ∧ MR w a b (upto (mulm a b) 7) W) ∨ (i = .int .i64 8 ∧ MR w a b (upto (mulm a b) 8) W) ∨ (i = .int .i64 9 ∧ MR w a b (upto (mulm a b) 9) W) ∨ (i = .int .i64 10 ∧ MR w a b (upto (mulm a b) 10) W) ∨ (i = .int .i64 11 ∧ MR w a b (upto (mulm a b) 11) W) ∨ (i = .int .i64 12 ∧ MR w a b (upto (mulm a b) 12) W) ∨ (i = .int .i64 13 ∧ MR w a b (upto (mulm a b) 13) W) ∨ (i = .int .i64 14 ∧ MR w a b (upto (mulm a b) 14) W) ∨ (i = .int .i64 15 ∧ MR w a b (upto (mulm a b) 15) W) ∨ (i = .int .i64 16 ∧ MR w a b (upto (mulm a b) 16) W))) (fun i _ => (16 - intOf i).toNat)
  case atStart => exact .inl ⟨rfl, BB, M0, M1, M2, zero_upto (mulm a b) M3, Z2, Z3⟩
  case round =>
    clear BB M0 M1 M2 M3 Z2 Z3
    rcases hrel with ⟨rfl, BB, M0, M1, M2, M3, Z2, Z3⟩ | ⟨rfl, BB, M0, M1, M2, M3, Z2, Z3⟩ | ⟨rfl, BB, M0, M1, M2, M3, Z2, Z3⟩ | ⟨rfl, BB, M0, M1, M2, M3, Z2, Z3⟩ | ⟨rfl, BB, M0, M1, M2, M3, Z2, Z3⟩ | ⟨rfl, BB, M0, M1, M2, M3, Z2, Z3⟩ | ⟨rfl, BB, M0, M1, M2, M3, Z2, Z3⟩ | ⟨rfl, BB, M0, M1, M2, M3, Z2, Z3⟩ | ⟨rfl, BB, M0, M1, M2, M3, Z2, Z3⟩ | ⟨rfl, BB, M0, M1, M2, M3, Z2, Z3⟩ | ⟨rfl, BB, M0, M1, M2, M3, Z2, Z3⟩ | ⟨rfl, BB, M0, M1, M2, M3, Z2, Z3⟩ | ⟨rfl, BB, M0, M1, M2, M3, Z2, Z3⟩ | ⟨rfl, BB, M0, M1, M2, M3, Z2, Z3⟩ | ⟨rfl, BB, M0, M1, M2, M3, Z2, Z3⟩ | ⟨rfl, BB, M0, M1, M2, M3, Z2, Z3⟩ | ⟨rfl, BB, M0, M1, M2, M3, Z2, Z3⟩
    · go_wp2_with fail
      have k_M0 := mat_regrown M0
      have k_M1 := mat_regrown M1
      have k_M2 := mat_regrown M2
      have k_M3 := mat_regrown M3
      refine wp_region_tail (n := 11) (by kernel_rfl) (by kernel_rfl) ?_
      simp only [List.take_succ_cons, List.take_zero, List.drop_succ_cons, List.drop_zero]
      repeat (first | (go_big_quiet_want; refine quiet_mload _ _ rfl matT (fun W hW => mat_class M0 hW) rfl ?_; go_simp; go_big_quiet_on) | (go_big_quiet_want; refine quiet_mload _ _ rfl matT (fun W hW => mat_class M1 hW) rfl ?_; go_simp; go_big_quiet_on) | (go_big_quiet_want; refine quiet_mload _ _ rfl matT (fun W hW => mat_class M2 hW) rfl ?_; go_simp; go_big_quiet_on) | (go_big_quiet_want; refine quiet_mload _ _ rfl matT (fun W hW => mat_class M3 hW) rfl ?_; go_simp; go_big_quiet_on) | go_big_quiet_step ((first | (go_at_call 11; exact Calls.regrown_of (rrow_b _ _ _)) | (go_at_call 39; exact Calls.regrown_of (rcolumn_b _ _ _ (by omega))) | (go_at_call 38; exact Calls.regrown_of (rdot_b _ _ _ _ _ _ _ _ _)))) | quiet_step ((first | (go_at_call 11; exact Calls.regrown_of (rrow_b _ _ _)) | (go_at_call 39; exact Calls.regrown_of (rcolumn_b _ _ _ (by omega))) | (go_at_call 38; exact Calls.regrown_of (rdot_b _ _ _ _ _ _ _ _ _)))))
      refine wpQuiet_nil ?_
      intro W hw'
      have B := below_regrown' hw'
      clear hw' k_M0 k_M1 k_M2 k_M3
      replace BB := bon BB B
      replace Z2 := matz_below B M2 Z2
      replace Z3 := matz_below B M3 Z3
      replace M0 := mat_below B M0
      replace M1 := mat_below B M1
      replace M2 := mat_below B M2
      replace M3 := mat_below B M3
      go_wp2_with fail
      go_roundw
      case rel => exact .inr (.inl ⟨rfl, BB.setCell (by show w.heap.size ≤ w.heap.size + 2 + 1; omega) _, mat_set_far M0 (by omega), mat_set_far M1 (by omega), mat_set_far M2 (by omega), upto_set M3 (by decide) rfl, matz_set Z2, matz_set Z3⟩)
      case measure => simp [intOf]
    · go_wp2_with fail
      have k_M0 := mat_regrown M0
      have k_M1 := mat_regrown M1
      have k_M2 := mat_regrown M2
      have k_M3 := mat_regrown M3
      refine wp_region_tail (n := 11) (by kernel_rfl) (by kernel_rfl) ?_
      simp only [List.take_succ_cons, List.take_zero, List.drop_succ_cons, List.drop_zero]
      repeat (first | (go_big_quiet_want; refine quiet_mload _ _ rfl matT (fun W hW => mat_class M0 hW) rfl ?_; go_simp; go_big_quiet_on) | (go_big_quiet_want; refine quiet_mload _ _ rfl matT (fun W hW => mat_class M1 hW) rfl ?_; go_simp; go_big_quiet_on) | (go_big_quiet_want; refine quiet_mload _ _ rfl matT (fun W hW => mat_class M2 hW) rfl ?_; go_simp; go_big_quiet_on) | (go_big_quiet_want; refine quiet_mload _ _ rfl matT (fun W hW => mat_class M3 hW) rfl ?_; go_simp; go_big_quiet_on) | go_big_quiet_step ((first | (go_at_call 11; exact Calls.regrown_of (rrow_b _ _ _)) | (go_at_call 39; exact Calls.regrown_of (rcolumn_b _ _ _ (by omega))) | (go_at_call 38; exact Calls.regrown_of (rdot_b _ _ _ _ _ _ _ _ _)))) | quiet_step ((first | (go_at_call 11; exact Calls.regrown_of (rrow_b _ _ _)) | (go_at_call 39; exact Calls.regrown_of (rcolumn_b _ _ _ (by omega))) | (go_at_call 38; exact Calls.regrown_of (rdot_b _ _ _ _ _ _ _ _ _)))))
      refine wpQuiet_nil ?_
      intro W hw'
      have B := below_regrown' hw'
      clear hw' k_M0 k_M1 k_M2 k_M3
      replace BB := bon BB B
      replace Z2 := matz_below B M2 Z2
      replace Z3 := matz_below B M3 Z3
      replace M0 := mat_below B M0
      replace M1 := mat_below B M1
      replace M2 := mat_below B M2
      replace M3 := mat_below B M3
      go_wp2_with fail
      go_roundw
      case rel => exact .inr (.inr (.inl ⟨rfl, BB.setCell (by show w.heap.size ≤ w.heap.size + 2 + 1; omega) _, mat_set_far M0 (by omega), mat_set_far M1 (by omega), mat_set_far M2 (by omega), upto_set M3 (by decide) rfl, matz_set Z2, matz_set Z3⟩))
      case measure => simp [intOf]
    · go_wp2_with fail
      have k_M0 := mat_regrown M0
      have k_M1 := mat_regrown M1
      have k_M2 := mat_regrown M2
      have k_M3 := mat_regrown M3
      refine wp_region_tail (n := 11) (by kernel_rfl) (by kernel_rfl) ?_
      simp only [List.take_succ_cons, List.take_zero, List.drop_succ_cons, List.drop_zero]
      repeat (first | (go_big_quiet_want; refine quiet_mload _ _ rfl matT (fun W hW => mat_class M0 hW) rfl ?_; go_simp; go_big_quiet_on) | (go_big_quiet_want; refine quiet_mload _ _ rfl matT (fun W hW => mat_class M1 hW) rfl ?_; go_simp; go_big_quiet_on) | (go_big_quiet_want; refine quiet_mload _ _ rfl matT (fun W hW => mat_class M2 hW) rfl ?_; go_simp; go_big_quiet_on) | (go_big_quiet_want; refine quiet_mload _ _ rfl matT (fun W hW => mat_class M3 hW) rfl ?_; go_simp; go_big_quiet_on) | go_big_quiet_step ((first | (go_at_call 11; exact Calls.regrown_of (rrow_b _ _ _)) | (go_at_call 39; exact Calls.regrown_of (rcolumn_b _ _ _ (by omega))) | (go_at_call 38; exact Calls.regrown_of (rdot_b _ _ _ _ _ _ _ _ _)))) | quiet_step ((first | (go_at_call 11; exact Calls.regrown_of (rrow_b _ _ _)) | (go_at_call 39; exact Calls.regrown_of (rcolumn_b _ _ _ (by omega))) | (go_at_call 38; exact Calls.regrown_of (rdot_b _ _ _ _ _ _ _ _ _)))))
      refine wpQuiet_nil ?_
      intro W hw'
      have B := below_regrown' hw'
      clear hw' k_M0 k_M1 k_M2 k_M3
      replace BB := bon BB B
      replace Z2 := matz_below B M2 Z2
      replace Z3 := matz_below B M3 Z3
      replace M0 := mat_below B M0
      replace M1 := mat_below B M1
      replace M2 := mat_below B M2
      replace M3 := mat_below B M3
      go_wp2_with fail
      go_roundw
      case rel => exact .inr (.inr (.inr (.inl ⟨rfl, BB.setCell (by show w.heap.size ≤ w.heap.size + 2 + 1; omega) _, mat_set_far M0 (by omega), mat_set_far M1 (by omega), mat_set_far M2 (by omega), upto_set M3 (by decide) rfl, matz_set Z2, matz_set Z3⟩)))
      case measure => simp [intOf]
    · go_wp2_with fail
      have k_M0 := mat_regrown M0
      have k_M1 := mat_regrown M1
      have k_M2 := mat_regrown M2
      have k_M3 := mat_regrown M3
      refine wp_region_tail (n := 11) (by kernel_rfl) (by kernel_rfl) ?_
      simp only [List.take_succ_cons, List.take_zero, List.drop_succ_cons, List.drop_zero]
      repeat (first | (go_big_quiet_want; refine quiet_mload _ _ rfl matT (fun W hW => mat_class M0 hW) rfl ?_; go_simp; go_big_quiet_on) | (go_big_quiet_want; refine quiet_mload _ _ rfl matT (fun W hW => mat_class M1 hW) rfl ?_; go_simp; go_big_quiet_on) | (go_big_quiet_want; refine quiet_mload _ _ rfl matT (fun W hW => mat_class M2 hW) rfl ?_; go_simp; go_big_quiet_on) | (go_big_quiet_want; refine quiet_mload _ _ rfl matT (fun W hW => mat_class M3 hW) rfl ?_; go_simp; go_big_quiet_on) | go_big_quiet_step ((first | (go_at_call 11; exact Calls.regrown_of (rrow_b _ _ _)) | (go_at_call 39; exact Calls.regrown_of (rcolumn_b _ _ _ (by omega))) | (go_at_call 38; exact Calls.regrown_of (rdot_b _ _ _ _ _ _ _ _ _)))) | quiet_step ((first | (go_at_call 11; exact Calls.regrown_of (rrow_b _ _ _)) | (go_at_call 39; exact Calls.regrown_of (rcolumn_b _ _ _ (by omega))) | (go_at_call 38; exact Calls.regrown_of (rdot_b _ _ _ _ _ _ _ _ _)))))
      refine wpQuiet_nil ?_
      intro W hw'
      have B := below_regrown' hw'
      clear hw' k_M0 k_M1 k_M2 k_M3
      replace BB := bon BB B
      replace Z2 := matz_below B M2 Z2
      replace Z3 := matz_below B M3 Z3
      replace M0 := mat_below B M0
      replace M1 := mat_below B M1
      replace M2 := mat_below B M2
      replace M3 := mat_below B M3
      go_wp2_with fail
      go_roundw
      case rel => exact .inr (.inr (.inr (.inr (.inl ⟨rfl, BB.setCell (by show w.heap.size ≤ w.heap.size + 2 + 1; omega) _, mat_set_far M0 (by omega), mat_set_far M1 (by omega), mat_set_far M2 (by omega), upto_set M3 (by decide) rfl, matz_set Z2, matz_set Z3⟩))))
      case measure => simp [intOf]
    · go_wp2_with fail
      have k_M0 := mat_regrown M0
      have k_M1 := mat_regrown M1
      have k_M2 := mat_regrown M2
      have k_M3 := mat_regrown M3
      refine wp_region_tail (n := 11) (by kernel_rfl) (by kernel_rfl) ?_
      simp only [List.take_succ_cons, List.take_zero, List.drop_succ_cons, List.drop_zero]
      repeat (first | (go_big_quiet_want; refine quiet_mload _ _ rfl matT (fun W hW => mat_class M0 hW) rfl ?_; go_simp; go_big_quiet_on) | (go_big_quiet_want; refine quiet_mload _ _ rfl matT (fun W hW => mat_class M1 hW) rfl ?_; go_simp; go_big_quiet_on) | (go_big_quiet_want; refine quiet_mload _ _ rfl matT (fun W hW => mat_class M2 hW) rfl ?_; go_simp; go_big_quiet_on) | (go_big_quiet_want; refine quiet_mload _ _ rfl matT (fun W hW => mat_class M3 hW) rfl ?_; go_simp; go_big_quiet_on) | go_big_quiet_step ((first | (go_at_call 11; exact Calls.regrown_of (rrow_b _ _ _)) | (go_at_call 39; exact Calls.regrown_of (rcolumn_b _ _ _ (by omega))) | (go_at_call 38; exact Calls.regrown_of (rdot_b _ _ _ _ _ _ _ _ _)))) | quiet_step ((first | (go_at_call 11; exact Calls.regrown_of (rrow_b _ _ _)) | (go_at_call 39; exact Calls.regrown_of (rcolumn_b _ _ _ (by omega))) | (go_at_call 38; exact Calls.regrown_of (rdot_b _ _ _ _ _ _ _ _ _)))))
      refine wpQuiet_nil ?_
      intro W hw'
      have B := below_regrown' hw'
      clear hw' k_M0 k_M1 k_M2 k_M3
      replace BB := bon BB B
      replace Z2 := matz_below B M2 Z2
      replace Z3 := matz_below B M3 Z3
      replace M0 := mat_below B M0
      replace M1 := mat_below B M1
      replace M2 := mat_below B M2
      replace M3 := mat_below B M3
      go_wp2_with fail
      go_roundw
      case rel => exact .inr (.inr (.inr (.inr (.inr (.inl ⟨rfl, BB.setCell (by show w.heap.size ≤ w.heap.size + 2 + 1; omega) _, mat_set_far M0 (by omega), mat_set_far M1 (by omega), mat_set_far M2 (by omega), upto_set M3 (by decide) rfl, matz_set Z2, matz_set Z3⟩)))))
      case measure => simp [intOf]
    · go_wp2_with fail
      have k_M0 := mat_regrown M0
      have k_M1 := mat_regrown M1
      have k_M2 := mat_regrown M2
      have k_M3 := mat_regrown M3
      refine wp_region_tail (n := 11) (by kernel_rfl) (by kernel_rfl) ?_
      simp only [List.take_succ_cons, List.take_zero, List.drop_succ_cons, List.drop_zero]
      repeat (first | (go_big_quiet_want; refine quiet_mload _ _ rfl matT (fun W hW => mat_class M0 hW) rfl ?_; go_simp; go_big_quiet_on) | (go_big_quiet_want; refine quiet_mload _ _ rfl matT (fun W hW => mat_class M1 hW) rfl ?_; go_simp; go_big_quiet_on) | (go_big_quiet_want; refine quiet_mload _ _ rfl matT (fun W hW => mat_class M2 hW) rfl ?_; go_simp; go_big_quiet_on) | (go_big_quiet_want; refine quiet_mload _ _ rfl matT (fun W hW => mat_class M3 hW) rfl ?_; go_simp; go_big_quiet_on) | go_big_quiet_step ((first | (go_at_call 11; exact Calls.regrown_of (rrow_b _ _ _)) | (go_at_call 39; exact Calls.regrown_of (rcolumn_b _ _ _ (by omega))) | (go_at_call 38; exact Calls.regrown_of (rdot_b _ _ _ _ _ _ _ _ _)))) | quiet_step ((first | (go_at_call 11; exact Calls.regrown_of (rrow_b _ _ _)) | (go_at_call 39; exact Calls.regrown_of (rcolumn_b _ _ _ (by omega))) | (go_at_call 38; exact Calls.regrown_of (rdot_b _ _ _ _ _ _ _ _ _)))))
      refine wpQuiet_nil ?_
      intro W hw'
      have B := below_regrown' hw'
      clear hw' k_M0 k_M1 k_M2 k_M3
      replace BB := bon BB B
      replace Z2 := matz_below B M2 Z2
      replace Z3 := matz_below B M3 Z3
      replace M0 := mat_below B M0
      replace M1 := mat_below B M1
      replace M2 := mat_below B M2
      replace M3 := mat_below B M3
      go_wp2_with fail
      go_roundw
      case rel => exact .inr (.inr (.inr (.inr (.inr (.inr (.inl ⟨rfl, BB.setCell (by show w.heap.size ≤ w.heap.size + 2 + 1; omega) _, mat_set_far M0 (by omega), mat_set_far M1 (by omega), mat_set_far M2 (by omega), upto_set M3 (by decide) rfl, matz_set Z2, matz_set Z3⟩))))))
      case measure => simp [intOf]
    · go_wp2_with fail
      have k_M0 := mat_regrown M0
      have k_M1 := mat_regrown M1
      have k_M2 := mat_regrown M2
      have k_M3 := mat_regrown M3
      refine wp_region_tail (n := 11) (by kernel_rfl) (by kernel_rfl) ?_
      simp only [List.take_succ_cons, List.take_zero, List.drop_succ_cons, List.drop_zero]
      repeat (first | (go_big_quiet_want; refine quiet_mload _ _ rfl matT (fun W hW => mat_class M0 hW) rfl ?_; go_simp; go_big_quiet_on) | (go_big_quiet_want; refine quiet_mload _ _ rfl matT (fun W hW => mat_class M1 hW) rfl ?_; go_simp; go_big_quiet_on) | (go_big_quiet_want; refine quiet_mload _ _ rfl matT (fun W hW => mat_class M2 hW) rfl ?_; go_simp; go_big_quiet_on) | (go_big_quiet_want; refine quiet_mload _ _ rfl matT (fun W hW => mat_class M3 hW) rfl ?_; go_simp; go_big_quiet_on) | go_big_quiet_step ((first | (go_at_call 11; exact Calls.regrown_of (rrow_b _ _ _)) | (go_at_call 39; exact Calls.regrown_of (rcolumn_b _ _ _ (by omega))) | (go_at_call 38; exact Calls.regrown_of (rdot_b _ _ _ _ _ _ _ _ _)))) | quiet_step ((first | (go_at_call 11; exact Calls.regrown_of (rrow_b _ _ _)) | (go_at_call 39; exact Calls.regrown_of (rcolumn_b _ _ _ (by omega))) | (go_at_call 38; exact Calls.regrown_of (rdot_b _ _ _ _ _ _ _ _ _)))))
      refine wpQuiet_nil ?_
      intro W hw'
      have B := below_regrown' hw'
      clear hw' k_M0 k_M1 k_M2 k_M3
      replace BB := bon BB B
      replace Z2 := matz_below B M2 Z2
      replace Z3 := matz_below B M3 Z3
      replace M0 := mat_below B M0
      replace M1 := mat_below B M1
      replace M2 := mat_below B M2
      replace M3 := mat_below B M3
      go_wp2_with fail
      go_roundw
      case rel => exact .inr (.inr (.inr (.inr (.inr (.inr (.inr (.inl ⟨rfl, BB.setCell (by show w.heap.size ≤ w.heap.size + 2 + 1; omega) _, mat_set_far M0 (by omega), mat_set_far M1 (by omega), mat_set_far M2 (by omega), upto_set M3 (by decide) rfl, matz_set Z2, matz_set Z3⟩)))))))
      case measure => simp [intOf]
    · go_wp2_with fail
      have k_M0 := mat_regrown M0
      have k_M1 := mat_regrown M1
      have k_M2 := mat_regrown M2
      have k_M3 := mat_regrown M3
      refine wp_region_tail (n := 11) (by kernel_rfl) (by kernel_rfl) ?_
      simp only [List.take_succ_cons, List.take_zero, List.drop_succ_cons, List.drop_zero]
      repeat (first | (go_big_quiet_want; refine quiet_mload _ _ rfl matT (fun W hW => mat_class M0 hW) rfl ?_; go_simp; go_big_quiet_on) | (go_big_quiet_want; refine quiet_mload _ _ rfl matT (fun W hW => mat_class M1 hW) rfl ?_; go_simp; go_big_quiet_on) | (go_big_quiet_want; refine quiet_mload _ _ rfl matT (fun W hW => mat_class M2 hW) rfl ?_; go_simp; go_big_quiet_on) | (go_big_quiet_want; refine quiet_mload _ _ rfl matT (fun W hW => mat_class M3 hW) rfl ?_; go_simp; go_big_quiet_on) | go_big_quiet_step ((first | (go_at_call 11; exact Calls.regrown_of (rrow_b _ _ _)) | (go_at_call 39; exact Calls.regrown_of (rcolumn_b _ _ _ (by omega))) | (go_at_call 38; exact Calls.regrown_of (rdot_b _ _ _ _ _ _ _ _ _)))) | quiet_step ((first | (go_at_call 11; exact Calls.regrown_of (rrow_b _ _ _)) | (go_at_call 39; exact Calls.regrown_of (rcolumn_b _ _ _ (by omega))) | (go_at_call 38; exact Calls.regrown_of (rdot_b _ _ _ _ _ _ _ _ _)))))
      refine wpQuiet_nil ?_
      intro W hw'
      have B := below_regrown' hw'
      clear hw' k_M0 k_M1 k_M2 k_M3
      replace BB := bon BB B
      replace Z2 := matz_below B M2 Z2
      replace Z3 := matz_below B M3 Z3
      replace M0 := mat_below B M0
      replace M1 := mat_below B M1
      replace M2 := mat_below B M2
      replace M3 := mat_below B M3
      go_wp2_with fail
      go_roundw
      case rel => exact .inr (.inr (.inr (.inr (.inr (.inr (.inr (.inr (.inl ⟨rfl, BB.setCell (by show w.heap.size ≤ w.heap.size + 2 + 1; omega) _, mat_set_far M0 (by omega), mat_set_far M1 (by omega), mat_set_far M2 (by omega), upto_set M3 (by decide) rfl, matz_set Z2, matz_set Z3⟩))))))))
      case measure => simp [intOf]
    · go_wp2_with fail
      have k_M0 := mat_regrown M0
      have k_M1 := mat_regrown M1
      have k_M2 := mat_regrown M2
      have k_M3 := mat_regrown M3
      refine wp_region_tail (n := 11) (by kernel_rfl) (by kernel_rfl) ?_
      simp only [List.take_succ_cons, List.take_zero, List.drop_succ_cons, List.drop_zero]
      repeat (first | (go_big_quiet_want; refine quiet_mload _ _ rfl matT (fun W hW => mat_class M0 hW) rfl ?_; go_simp; go_big_quiet_on) | (go_big_quiet_want; refine quiet_mload _ _ rfl matT (fun W hW => mat_class M1 hW) rfl ?_; go_simp; go_big_quiet_on) | (go_big_quiet_want; refine quiet_mload _ _ rfl matT (fun W hW => mat_class M2 hW) rfl ?_; go_simp; go_big_quiet_on) | (go_big_quiet_want; refine quiet_mload _ _ rfl matT (fun W hW => mat_class M3 hW) rfl ?_; go_simp; go_big_quiet_on) | go_big_quiet_step ((first | (go_at_call 11; exact Calls.regrown_of (rrow_b _ _ _)) | (go_at_call 39; exact Calls.regrown_of (rcolumn_b _ _ _ (by omega))) | (go_at_call 38; exact Calls.regrown_of (rdot_b _ _ _ _ _ _ _ _ _)))) | quiet_step ((first | (go_at_call 11; exact Calls.regrown_of (rrow_b _ _ _)) | (go_at_call 39; exact Calls.regrown_of (rcolumn_b _ _ _ (by omega))) | (go_at_call 38; exact Calls.regrown_of (rdot_b _ _ _ _ _ _ _ _ _)))))
      refine wpQuiet_nil ?_
      intro W hw'
      have B := below_regrown' hw'
      clear hw' k_M0 k_M1 k_M2 k_M3
      replace BB := bon BB B
      replace Z2 := matz_below B M2 Z2
      replace Z3 := matz_below B M3 Z3
      replace M0 := mat_below B M0
      replace M1 := mat_below B M1
      replace M2 := mat_below B M2
      replace M3 := mat_below B M3
      go_wp2_with fail
      go_roundw
      case rel => exact .inr (.inr (.inr (.inr (.inr (.inr (.inr (.inr (.inr (.inl ⟨rfl, BB.setCell (by show w.heap.size ≤ w.heap.size + 2 + 1; omega) _, mat_set_far M0 (by omega), mat_set_far M1 (by omega), mat_set_far M2 (by omega), upto_set M3 (by decide) rfl, matz_set Z2, matz_set Z3⟩)))))))))
      case measure => simp [intOf]
    · go_wp2_with fail
      have k_M0 := mat_regrown M0
      have k_M1 := mat_regrown M1
      have k_M2 := mat_regrown M2
      have k_M3 := mat_regrown M3
      refine wp_region_tail (n := 11) (by kernel_rfl) (by kernel_rfl) ?_
      simp only [List.take_succ_cons, List.take_zero, List.drop_succ_cons, List.drop_zero]
      repeat (first | (go_big_quiet_want; refine quiet_mload _ _ rfl matT (fun W hW => mat_class M0 hW) rfl ?_; go_simp; go_big_quiet_on) | (go_big_quiet_want; refine quiet_mload _ _ rfl matT (fun W hW => mat_class M1 hW) rfl ?_; go_simp; go_big_quiet_on) | (go_big_quiet_want; refine quiet_mload _ _ rfl matT (fun W hW => mat_class M2 hW) rfl ?_; go_simp; go_big_quiet_on) | (go_big_quiet_want; refine quiet_mload _ _ rfl matT (fun W hW => mat_class M3 hW) rfl ?_; go_simp; go_big_quiet_on) | go_big_quiet_step ((first | (go_at_call 11; exact Calls.regrown_of (rrow_b _ _ _)) | (go_at_call 39; exact Calls.regrown_of (rcolumn_b _ _ _ (by omega))) | (go_at_call 38; exact Calls.regrown_of (rdot_b _ _ _ _ _ _ _ _ _)))) | quiet_step ((first | (go_at_call 11; exact Calls.regrown_of (rrow_b _ _ _)) | (go_at_call 39; exact Calls.regrown_of (rcolumn_b _ _ _ (by omega))) | (go_at_call 38; exact Calls.regrown_of (rdot_b _ _ _ _ _ _ _ _ _)))))
      refine wpQuiet_nil ?_
      intro W hw'
      have B := below_regrown' hw'
      clear hw' k_M0 k_M1 k_M2 k_M3
      replace BB := bon BB B
      replace Z2 := matz_below B M2 Z2
      replace Z3 := matz_below B M3 Z3
      replace M0 := mat_below B M0
      replace M1 := mat_below B M1
      replace M2 := mat_below B M2
      replace M3 := mat_below B M3
      go_wp2_with fail
      go_roundw
      case rel => exact .inr (.inr (.inr (.inr (.inr (.inr (.inr (.inr (.inr (.inr (.inl ⟨rfl, BB.setCell (by show w.heap.size ≤ w.heap.size + 2 + 1; omega) _, mat_set_far M0 (by omega), mat_set_far M1 (by omega), mat_set_far M2 (by omega), upto_set M3 (by decide) rfl, matz_set Z2, matz_set Z3⟩))))))))))
      case measure => simp [intOf]
    · go_wp2_with fail
      have k_M0 := mat_regrown M0
      have k_M1 := mat_regrown M1
      have k_M2 := mat_regrown M2
      have k_M3 := mat_regrown M3
      refine wp_region_tail (n := 11) (by kernel_rfl) (by kernel_rfl) ?_
      simp only [List.take_succ_cons, List.take_zero, List.drop_succ_cons, List.drop_zero]
      repeat (first | (go_big_quiet_want; refine quiet_mload _ _ rfl matT (fun W hW => mat_class M0 hW) rfl ?_; go_simp; go_big_quiet_on) | (go_big_quiet_want; refine quiet_mload _ _ rfl matT (fun W hW => mat_class M1 hW) rfl ?_; go_simp; go_big_quiet_on) | (go_big_quiet_want; refine quiet_mload _ _ rfl matT (fun W hW => mat_class M2 hW) rfl ?_; go_simp; go_big_quiet_on) | (go_big_quiet_want; refine quiet_mload _ _ rfl matT (fun W hW => mat_class M3 hW) rfl ?_; go_simp; go_big_quiet_on) | go_big_quiet_step ((first | (go_at_call 11; exact Calls.regrown_of (rrow_b _ _ _)) | (go_at_call 39; exact Calls.regrown_of (rcolumn_b _ _ _ (by omega))) | (go_at_call 38; exact Calls.regrown_of (rdot_b _ _ _ _ _ _ _ _ _)))) | quiet_step ((first | (go_at_call 11; exact Calls.regrown_of (rrow_b _ _ _)) | (go_at_call 39; exact Calls.regrown_of (rcolumn_b _ _ _ (by omega))) | (go_at_call 38; exact Calls.regrown_of (rdot_b _ _ _ _ _ _ _ _ _)))))
      refine wpQuiet_nil ?_
      intro W hw'
      have B := below_regrown' hw'
      clear hw' k_M0 k_M1 k_M2 k_M3
      replace BB := bon BB B
      replace Z2 := matz_below B M2 Z2
      replace Z3 := matz_below B M3 Z3
      replace M0 := mat_below B M0
      replace M1 := mat_below B M1
      replace M2 := mat_below B M2
      replace M3 := mat_below B M3
      go_wp2_with fail
      go_roundw
      case rel => exact .inr (.inr (.inr (.inr (.inr (.inr (.inr (.inr (.inr (.inr (.inr (.inl ⟨rfl, BB.setCell (by show w.heap.size ≤ w.heap.size + 2 + 1; omega) _, mat_set_far M0 (by omega), mat_set_far M1 (by omega), mat_set_far M2 (by omega), upto_set M3 (by decide) rfl, matz_set Z2, matz_set Z3⟩)))))))))))
      case measure => simp [intOf]
    · go_wp2_with fail
      have k_M0 := mat_regrown M0
      have k_M1 := mat_regrown M1
      have k_M2 := mat_regrown M2
      have k_M3 := mat_regrown M3
      refine wp_region_tail (n := 11) (by kernel_rfl) (by kernel_rfl) ?_
      simp only [List.take_succ_cons, List.take_zero, List.drop_succ_cons, List.drop_zero]
      repeat (first | (go_big_quiet_want; refine quiet_mload _ _ rfl matT (fun W hW => mat_class M0 hW) rfl ?_; go_simp; go_big_quiet_on) | (go_big_quiet_want; refine quiet_mload _ _ rfl matT (fun W hW => mat_class M1 hW) rfl ?_; go_simp; go_big_quiet_on) | (go_big_quiet_want; refine quiet_mload _ _ rfl matT (fun W hW => mat_class M2 hW) rfl ?_; go_simp; go_big_quiet_on) | (go_big_quiet_want; refine quiet_mload _ _ rfl matT (fun W hW => mat_class M3 hW) rfl ?_; go_simp; go_big_quiet_on) | go_big_quiet_step ((first | (go_at_call 11; exact Calls.regrown_of (rrow_b _ _ _)) | (go_at_call 39; exact Calls.regrown_of (rcolumn_b _ _ _ (by omega))) | (go_at_call 38; exact Calls.regrown_of (rdot_b _ _ _ _ _ _ _ _ _)))) | quiet_step ((first | (go_at_call 11; exact Calls.regrown_of (rrow_b _ _ _)) | (go_at_call 39; exact Calls.regrown_of (rcolumn_b _ _ _ (by omega))) | (go_at_call 38; exact Calls.regrown_of (rdot_b _ _ _ _ _ _ _ _ _)))))
      refine wpQuiet_nil ?_
      intro W hw'
      have B := below_regrown' hw'
      clear hw' k_M0 k_M1 k_M2 k_M3
      replace BB := bon BB B
      replace Z2 := matz_below B M2 Z2
      replace Z3 := matz_below B M3 Z3
      replace M0 := mat_below B M0
      replace M1 := mat_below B M1
      replace M2 := mat_below B M2
      replace M3 := mat_below B M3
      go_wp2_with fail
      go_roundw
      case rel => exact .inr (.inr (.inr (.inr (.inr (.inr (.inr (.inr (.inr (.inr (.inr (.inr (.inl ⟨rfl, BB.setCell (by show w.heap.size ≤ w.heap.size + 2 + 1; omega) _, mat_set_far M0 (by omega), mat_set_far M1 (by omega), mat_set_far M2 (by omega), upto_set M3 (by decide) rfl, matz_set Z2, matz_set Z3⟩))))))))))))
      case measure => simp [intOf]
    · go_wp2_with fail
      have k_M0 := mat_regrown M0
      have k_M1 := mat_regrown M1
      have k_M2 := mat_regrown M2
      have k_M3 := mat_regrown M3
      refine wp_region_tail (n := 11) (by kernel_rfl) (by kernel_rfl) ?_
      simp only [List.take_succ_cons, List.take_zero, List.drop_succ_cons, List.drop_zero]
      repeat (first | (go_big_quiet_want; refine quiet_mload _ _ rfl matT (fun W hW => mat_class M0 hW) rfl ?_; go_simp; go_big_quiet_on) | (go_big_quiet_want; refine quiet_mload _ _ rfl matT (fun W hW => mat_class M1 hW) rfl ?_; go_simp; go_big_quiet_on) | (go_big_quiet_want; refine quiet_mload _ _ rfl matT (fun W hW => mat_class M2 hW) rfl ?_; go_simp; go_big_quiet_on) | (go_big_quiet_want; refine quiet_mload _ _ rfl matT (fun W hW => mat_class M3 hW) rfl ?_; go_simp; go_big_quiet_on) | go_big_quiet_step ((first | (go_at_call 11; exact Calls.regrown_of (rrow_b _ _ _)) | (go_at_call 39; exact Calls.regrown_of (rcolumn_b _ _ _ (by omega))) | (go_at_call 38; exact Calls.regrown_of (rdot_b _ _ _ _ _ _ _ _ _)))) | quiet_step ((first | (go_at_call 11; exact Calls.regrown_of (rrow_b _ _ _)) | (go_at_call 39; exact Calls.regrown_of (rcolumn_b _ _ _ (by omega))) | (go_at_call 38; exact Calls.regrown_of (rdot_b _ _ _ _ _ _ _ _ _)))))
      refine wpQuiet_nil ?_
      intro W hw'
      have B := below_regrown' hw'
      clear hw' k_M0 k_M1 k_M2 k_M3
      replace BB := bon BB B
      replace Z2 := matz_below B M2 Z2
      replace Z3 := matz_below B M3 Z3
      replace M0 := mat_below B M0
      replace M1 := mat_below B M1
      replace M2 := mat_below B M2
      replace M3 := mat_below B M3
      go_wp2_with fail
      go_roundw
      case rel => exact .inr (.inr (.inr (.inr (.inr (.inr (.inr (.inr (.inr (.inr (.inr (.inr (.inr (.inl ⟨rfl, BB.setCell (by show w.heap.size ≤ w.heap.size + 2 + 1; omega) _, mat_set_far M0 (by omega), mat_set_far M1 (by omega), mat_set_far M2 (by omega), upto_set M3 (by decide) rfl, matz_set Z2, matz_set Z3⟩)))))))))))))
      case measure => simp [intOf]
    · go_wp2_with fail
      have k_M0 := mat_regrown M0
      have k_M1 := mat_regrown M1
      have k_M2 := mat_regrown M2
      have k_M3 := mat_regrown M3
      refine wp_region_tail (n := 11) (by kernel_rfl) (by kernel_rfl) ?_
      simp only [List.take_succ_cons, List.take_zero, List.drop_succ_cons, List.drop_zero]
      repeat (first | (go_big_quiet_want; refine quiet_mload _ _ rfl matT (fun W hW => mat_class M0 hW) rfl ?_; go_simp; go_big_quiet_on) | (go_big_quiet_want; refine quiet_mload _ _ rfl matT (fun W hW => mat_class M1 hW) rfl ?_; go_simp; go_big_quiet_on) | (go_big_quiet_want; refine quiet_mload _ _ rfl matT (fun W hW => mat_class M2 hW) rfl ?_; go_simp; go_big_quiet_on) | (go_big_quiet_want; refine quiet_mload _ _ rfl matT (fun W hW => mat_class M3 hW) rfl ?_; go_simp; go_big_quiet_on) | go_big_quiet_step ((first | (go_at_call 11; exact Calls.regrown_of (rrow_b _ _ _)) | (go_at_call 39; exact Calls.regrown_of (rcolumn_b _ _ _ (by omega))) | (go_at_call 38; exact Calls.regrown_of (rdot_b _ _ _ _ _ _ _ _ _)))) | quiet_step ((first | (go_at_call 11; exact Calls.regrown_of (rrow_b _ _ _)) | (go_at_call 39; exact Calls.regrown_of (rcolumn_b _ _ _ (by omega))) | (go_at_call 38; exact Calls.regrown_of (rdot_b _ _ _ _ _ _ _ _ _)))))
      refine wpQuiet_nil ?_
      intro W hw'
      have B := below_regrown' hw'
      clear hw' k_M0 k_M1 k_M2 k_M3
      replace BB := bon BB B
      replace Z2 := matz_below B M2 Z2
      replace Z3 := matz_below B M3 Z3
      replace M0 := mat_below B M0
      replace M1 := mat_below B M1
      replace M2 := mat_below B M2
      replace M3 := mat_below B M3
      go_wp2_with fail
      go_roundw
      case rel => exact .inr (.inr (.inr (.inr (.inr (.inr (.inr (.inr (.inr (.inr (.inr (.inr (.inr (.inr (.inl ⟨rfl, BB.setCell (by show w.heap.size ≤ w.heap.size + 2 + 1; omega) _, mat_set_far M0 (by omega), mat_set_far M1 (by omega), mat_set_far M2 (by omega), upto_set M3 (by decide) rfl, matz_set Z2, matz_set Z3⟩))))))))))))))
      case measure => simp [intOf]
    · go_wp2_with fail
      have k_M0 := mat_regrown M0
      have k_M1 := mat_regrown M1
      have k_M2 := mat_regrown M2
      have k_M3 := mat_regrown M3
      refine wp_region_tail (n := 11) (by kernel_rfl) (by kernel_rfl) ?_
      simp only [List.take_succ_cons, List.take_zero, List.drop_succ_cons, List.drop_zero]
      repeat (first | (go_big_quiet_want; refine quiet_mload _ _ rfl matT (fun W hW => mat_class M0 hW) rfl ?_; go_simp; go_big_quiet_on) | (go_big_quiet_want; refine quiet_mload _ _ rfl matT (fun W hW => mat_class M1 hW) rfl ?_; go_simp; go_big_quiet_on) | (go_big_quiet_want; refine quiet_mload _ _ rfl matT (fun W hW => mat_class M2 hW) rfl ?_; go_simp; go_big_quiet_on) | (go_big_quiet_want; refine quiet_mload _ _ rfl matT (fun W hW => mat_class M3 hW) rfl ?_; go_simp; go_big_quiet_on) | go_big_quiet_step ((first | (go_at_call 11; exact Calls.regrown_of (rrow_b _ _ _)) | (go_at_call 39; exact Calls.regrown_of (rcolumn_b _ _ _ (by omega))) | (go_at_call 38; exact Calls.regrown_of (rdot_b _ _ _ _ _ _ _ _ _)))) | quiet_step ((first | (go_at_call 11; exact Calls.regrown_of (rrow_b _ _ _)) | (go_at_call 39; exact Calls.regrown_of (rcolumn_b _ _ _ (by omega))) | (go_at_call 38; exact Calls.regrown_of (rdot_b _ _ _ _ _ _ _ _ _)))))
      refine wpQuiet_nil ?_
      intro W hw'
      have B := below_regrown' hw'
      clear hw' k_M0 k_M1 k_M2 k_M3
      replace BB := bon BB B
      replace Z2 := matz_below B M2 Z2
      replace Z3 := matz_below B M3 Z3
      replace M0 := mat_below B M0
      replace M1 := mat_below B M1
      replace M2 := mat_below B M2
      replace M3 := mat_below B M3
      go_wp2_with fail
      go_roundw
      case rel => exact .inr (.inr (.inr (.inr (.inr (.inr (.inr (.inr (.inr (.inr (.inr (.inr (.inr (.inr (.inr (.inl ⟨rfl, BB.setCell (by show w.heap.size ≤ w.heap.size + 2 + 1; omega) _, mat_set_far M0 (by omega), mat_set_far M1 (by omega), mat_set_far M2 (by omega), upto_set M3 (by decide) rfl, matz_set Z2, matz_set Z3⟩)))))))))))))))
      case measure => simp [intOf]
    · go_wp2_with fail
      have k_M0 := mat_regrown M0
      have k_M1 := mat_regrown M1
      have k_M2 := mat_regrown M2
      have k_M3 := mat_regrown M3
      refine wp_region_tail (n := 11) (by kernel_rfl) (by kernel_rfl) ?_
      simp only [List.take_succ_cons, List.take_zero, List.drop_succ_cons, List.drop_zero]
      repeat (first | (go_big_quiet_want; refine quiet_mload _ _ rfl matT (fun W hW => mat_class M0 hW) rfl ?_; go_simp; go_big_quiet_on) | (go_big_quiet_want; refine quiet_mload _ _ rfl matT (fun W hW => mat_class M1 hW) rfl ?_; go_simp; go_big_quiet_on) | (go_big_quiet_want; refine quiet_mload _ _ rfl matT (fun W hW => mat_class M2 hW) rfl ?_; go_simp; go_big_quiet_on) | (go_big_quiet_want; refine quiet_mload _ _ rfl matT (fun W hW => mat_class M3 hW) rfl ?_; go_simp; go_big_quiet_on) | go_big_quiet_step ((first | (go_at_call 11; exact Calls.regrown_of (rrow_b _ _ _)) | (go_at_call 39; exact Calls.regrown_of (rcolumn_b _ _ _ (by omega))) | (go_at_call 38; exact Calls.regrown_of (rdot_b _ _ _ _ _ _ _ _ _)))) | quiet_step ((first | (go_at_call 11; exact Calls.regrown_of (rrow_b _ _ _)) | (go_at_call 39; exact Calls.regrown_of (rcolumn_b _ _ _ (by omega))) | (go_at_call 38; exact Calls.regrown_of (rdot_b _ _ _ _ _ _ _ _ _)))))
      refine wpQuiet_nil ?_
      intro W hw'
      have B := below_regrown' hw'
      clear hw' k_M0 k_M1 k_M2 k_M3
      replace BB := bon BB B
      replace Z2 := matz_below B M2 Z2
      replace Z3 := matz_below B M3 Z3
      replace M0 := mat_below B M0
      replace M1 := mat_below B M1
      replace M2 := mat_below B M2
      replace M3 := mat_below B M3
      go_wp2_with fail
      go_roundw
      case rel => exact .inr (.inr (.inr (.inr (.inr (.inr (.inr (.inr (.inr (.inr (.inr (.inr (.inr (.inr (.inr (.inr (⟨rfl, BB.setCell (by show w.heap.size ≤ w.heap.size + 2 + 1; omega) _, mat_set_far M0 (by omega), mat_set_far M1 (by omega), mat_set_far M2 (by omega), upto_set M3 (by decide) rfl, matz_set Z2, matz_set Z3⟩))))))))))))))))
      case measure => simp [intOf]
    · replace M3 := mat_to M3 (upto_all (mulm a b))
      clear M0 M1
      go_wp2_with (first | (refine wpList_mload rfl _ _ rfl matT M3 rfl ?_; go_simp) | (refine wpList_mstore rfl 23 _ _ rfl (mulm a b) rfl rfl (m0 := fun _ => 0) M2 Z2 BB (by omega) matT ?_; intro W' BB' M' Z' _ _ _; clear M2 M3 Z2 Z3 BB))
      exact bodyPost_ret (results_mat Try.results15 matT M' _ rfl) rfl ⟨rfl, BB'⟩

end Go.Proofs.Ytlchecnencbamaa
