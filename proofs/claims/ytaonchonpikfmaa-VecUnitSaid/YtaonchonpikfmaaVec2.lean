/- What the calls of package vec return: the functions over one or two vectors. -/
import Derived.Test.YtaonchonpikfmaaVec
namespace Go.Proofs.Ytaonchonpikfmaa
open Go.RowKit Go.Sort

/-- A vector, a number and a result, or two vectors, in blocks of their own. -/
theorem args1k (w : World) (a0 a1 a2 a3 k0 : Value) (t u : TypeId) :
    Below w.heap.size w (((w.alloc (.cells #[a0, a1, a2, a3] t)).alloc (.cells #[k0] u)).alloc (.cells #[.int .i64 0, .int .i64 0, .int .i64 0, .int .i64 0] t)) ∧
    (((w.alloc (.cells #[a0, a1, a2, a3] t)).alloc (.cells #[k0] u)).alloc (.cells #[.int .i64 0, .int .i64 0, .int .i64 0, .int .i64 0] t)).cell? ⟨w.heap.size, 0, none⟩ = some (a0) ∧
    (((w.alloc (.cells #[a0, a1, a2, a3] t)).alloc (.cells #[k0] u)).alloc (.cells #[.int .i64 0, .int .i64 0, .int .i64 0, .int .i64 0] t)).cell? ⟨w.heap.size, 1, none⟩ = some (a1) ∧
    (((w.alloc (.cells #[a0, a1, a2, a3] t)).alloc (.cells #[k0] u)).alloc (.cells #[.int .i64 0, .int .i64 0, .int .i64 0, .int .i64 0] t)).cell? ⟨w.heap.size, 2, none⟩ = some (a2) ∧
    (((w.alloc (.cells #[a0, a1, a2, a3] t)).alloc (.cells #[k0] u)).alloc (.cells #[.int .i64 0, .int .i64 0, .int .i64 0, .int .i64 0] t)).cell? ⟨w.heap.size, 3, none⟩ = some (a3) ∧
    (((w.alloc (.cells #[a0, a1, a2, a3] t)).alloc (.cells #[k0] u)).alloc (.cells #[.int .i64 0, .int .i64 0, .int .i64 0, .int .i64 0] t)).cell? ⟨w.heap.size + 1, 0, none⟩ = some (k0) ∧
    (((w.alloc (.cells #[a0, a1, a2, a3] t)).alloc (.cells #[k0] u)).alloc (.cells #[.int .i64 0, .int .i64 0, .int .i64 0, .int .i64 0] t)).cell? ⟨w.heap.size + 2, 0, none⟩ = some (.int .i64 0) ∧
    (((w.alloc (.cells #[a0, a1, a2, a3] t)).alloc (.cells #[k0] u)).alloc (.cells #[.int .i64 0, .int .i64 0, .int .i64 0, .int .i64 0] t)).cell? ⟨w.heap.size + 2, 1, none⟩ = some (.int .i64 0) ∧
    (((w.alloc (.cells #[a0, a1, a2, a3] t)).alloc (.cells #[k0] u)).alloc (.cells #[.int .i64 0, .int .i64 0, .int .i64 0, .int .i64 0] t)).cell? ⟨w.heap.size + 2, 2, none⟩ = some (.int .i64 0) ∧
    (((w.alloc (.cells #[a0, a1, a2, a3] t)).alloc (.cells #[k0] u)).alloc (.cells #[.int .i64 0, .int .i64 0, .int .i64 0, .int .i64 0] t)).cell? ⟨w.heap.size + 2, 3, none⟩ = some (.int .i64 0) ∧
    (((w.alloc (.cells #[a0, a1, a2, a3] t)).alloc (.cells #[k0] u)).alloc (.cells #[.int .i64 0, .int .i64 0, .int .i64 0, .int .i64 0] t)).frozen? ⟨w.heap.size + 2, 0, none⟩ = false ∧
    (((w.alloc (.cells #[a0, a1, a2, a3] t)).alloc (.cells #[k0] u)).alloc (.cells #[.int .i64 0, .int .i64 0, .int .i64 0, .int .i64 0] t)).frozen? ⟨w.heap.size + 2, 1, none⟩ = false ∧
    (((w.alloc (.cells #[a0, a1, a2, a3] t)).alloc (.cells #[k0] u)).alloc (.cells #[.int .i64 0, .int .i64 0, .int .i64 0, .int .i64 0] t)).frozen? ⟨w.heap.size + 2, 2, none⟩ = false ∧
    (((w.alloc (.cells #[a0, a1, a2, a3] t)).alloc (.cells #[k0] u)).alloc (.cells #[.int .i64 0, .int .i64 0, .int .i64 0, .int .i64 0] t)).frozen? ⟨w.heap.size + 2, 3, none⟩ = false := by
  have BB : Below w.heap.size w w := Below.refl _ _
  have z0 : w.heap.size = w.heap.size := by simp
  obtain ⟨B, BB⟩ := box_on BB #[a0, a1, a2, a3] t
  have p0_0 := box_cell w #[a0, a1, a2, a3] t 0 _ rfl
  have p0_1 := box_cell w #[a0, a1, a2, a3] t 1 _ rfl
  have p0_2 := box_cell w #[a0, a1, a2, a3] t 2 _ rfl
  have p0_3 := box_cell w #[a0, a1, a2, a3] t 3 _ rfl
  rw [z0] at p0_0 p0_1 p0_2 p0_3
  have z1 : (w.alloc (.cells #[a0, a1, a2, a3] t)).heap.size = w.heap.size + 1 := by simp
  obtain ⟨B, BB⟩ := box_on BB #[k0] u
  replace p0_0 := cell_below B p0_0
  replace p0_1 := cell_below B p0_1
  replace p0_2 := cell_below B p0_2
  replace p0_3 := cell_below B p0_3
  have p1_0 := box_cell (w.alloc (.cells #[a0, a1, a2, a3] t)) #[k0] u 0 _ rfl
  rw [z1] at p1_0
  have z2 : ((w.alloc (.cells #[a0, a1, a2, a3] t)).alloc (.cells #[k0] u)).heap.size = w.heap.size + 2 := by simp
  obtain ⟨B, BB⟩ := box_on BB #[.int .i64 0, .int .i64 0, .int .i64 0, .int .i64 0] t
  replace p0_0 := cell_below B p0_0
  replace p0_1 := cell_below B p0_1
  replace p0_2 := cell_below B p0_2
  replace p0_3 := cell_below B p0_3
  replace p1_0 := cell_below B p1_0
  have p2_0 := box_cell ((w.alloc (.cells #[a0, a1, a2, a3] t)).alloc (.cells #[k0] u)) #[.int .i64 0, .int .i64 0, .int .i64 0, .int .i64 0] t 0 _ rfl
  have p2_1 := box_cell ((w.alloc (.cells #[a0, a1, a2, a3] t)).alloc (.cells #[k0] u)) #[.int .i64 0, .int .i64 0, .int .i64 0, .int .i64 0] t 1 _ rfl
  have p2_2 := box_cell ((w.alloc (.cells #[a0, a1, a2, a3] t)).alloc (.cells #[k0] u)) #[.int .i64 0, .int .i64 0, .int .i64 0, .int .i64 0] t 2 _ rfl
  have p2_3 := box_cell ((w.alloc (.cells #[a0, a1, a2, a3] t)).alloc (.cells #[k0] u)) #[.int .i64 0, .int .i64 0, .int .i64 0, .int .i64 0] t 3 _ rfl
  rw [z2] at p2_0 p2_1 p2_2 p2_3
  have f2_0 : (((w.alloc (.cells #[a0, a1, a2, a3] t)).alloc (.cells #[k0] u)).alloc (.cells #[.int .i64 0, .int .i64 0, .int .i64 0, .int .i64 0] t)).frozen? ⟨w.heap.size + 2, 0, none⟩ = false := by rw [frozen?_alloc_cells, frozen?_alloc_cells, frozen?_alloc_cells]; unfold World.frozen?; simp
  have f2_1 : (((w.alloc (.cells #[a0, a1, a2, a3] t)).alloc (.cells #[k0] u)).alloc (.cells #[.int .i64 0, .int .i64 0, .int .i64 0, .int .i64 0] t)).frozen? ⟨w.heap.size + 2, 1, none⟩ = false := by rw [frozen?_alloc_cells, frozen?_alloc_cells, frozen?_alloc_cells]; unfold World.frozen?; simp
  have f2_2 : (((w.alloc (.cells #[a0, a1, a2, a3] t)).alloc (.cells #[k0] u)).alloc (.cells #[.int .i64 0, .int .i64 0, .int .i64 0, .int .i64 0] t)).frozen? ⟨w.heap.size + 2, 2, none⟩ = false := by rw [frozen?_alloc_cells, frozen?_alloc_cells, frozen?_alloc_cells]; unfold World.frozen?; simp
  have f2_3 : (((w.alloc (.cells #[a0, a1, a2, a3] t)).alloc (.cells #[k0] u)).alloc (.cells #[.int .i64 0, .int .i64 0, .int .i64 0, .int .i64 0] t)).frozen? ⟨w.heap.size + 2, 3, none⟩ = false := by rw [frozen?_alloc_cells, frozen?_alloc_cells, frozen?_alloc_cells]; unfold World.frozen?; simp
  exact ⟨BB, p0_0, p0_1, p0_2, p0_3, p1_0, p2_0, p2_1, p2_2, p2_3, f2_0, f2_1, f2_2, f2_3⟩

theorem args2k (w : World) (a0 a1 a2 a3 b0 b1 b2 b3 k0 : Value) (t u : TypeId) :
    Below w.heap.size w ((((w.alloc (.cells #[a0, a1, a2, a3] t)).alloc (.cells #[b0, b1, b2, b3] t)).alloc (.cells #[k0] u)).alloc (.cells #[.int .i64 0, .int .i64 0, .int .i64 0, .int .i64 0] t)) ∧
    ((((w.alloc (.cells #[a0, a1, a2, a3] t)).alloc (.cells #[b0, b1, b2, b3] t)).alloc (.cells #[k0] u)).alloc (.cells #[.int .i64 0, .int .i64 0, .int .i64 0, .int .i64 0] t)).cell? ⟨w.heap.size, 0, none⟩ = some (a0) ∧
    ((((w.alloc (.cells #[a0, a1, a2, a3] t)).alloc (.cells #[b0, b1, b2, b3] t)).alloc (.cells #[k0] u)).alloc (.cells #[.int .i64 0, .int .i64 0, .int .i64 0, .int .i64 0] t)).cell? ⟨w.heap.size, 1, none⟩ = some (a1) ∧
    ((((w.alloc (.cells #[a0, a1, a2, a3] t)).alloc (.cells #[b0, b1, b2, b3] t)).alloc (.cells #[k0] u)).alloc (.cells #[.int .i64 0, .int .i64 0, .int .i64 0, .int .i64 0] t)).cell? ⟨w.heap.size, 2, none⟩ = some (a2) ∧
    ((((w.alloc (.cells #[a0, a1, a2, a3] t)).alloc (.cells #[b0, b1, b2, b3] t)).alloc (.cells #[k0] u)).alloc (.cells #[.int .i64 0, .int .i64 0, .int .i64 0, .int .i64 0] t)).cell? ⟨w.heap.size, 3, none⟩ = some (a3) ∧
    ((((w.alloc (.cells #[a0, a1, a2, a3] t)).alloc (.cells #[b0, b1, b2, b3] t)).alloc (.cells #[k0] u)).alloc (.cells #[.int .i64 0, .int .i64 0, .int .i64 0, .int .i64 0] t)).cell? ⟨w.heap.size + 1, 0, none⟩ = some (b0) ∧
    ((((w.alloc (.cells #[a0, a1, a2, a3] t)).alloc (.cells #[b0, b1, b2, b3] t)).alloc (.cells #[k0] u)).alloc (.cells #[.int .i64 0, .int .i64 0, .int .i64 0, .int .i64 0] t)).cell? ⟨w.heap.size + 1, 1, none⟩ = some (b1) ∧
    ((((w.alloc (.cells #[a0, a1, a2, a3] t)).alloc (.cells #[b0, b1, b2, b3] t)).alloc (.cells #[k0] u)).alloc (.cells #[.int .i64 0, .int .i64 0, .int .i64 0, .int .i64 0] t)).cell? ⟨w.heap.size + 1, 2, none⟩ = some (b2) ∧
    ((((w.alloc (.cells #[a0, a1, a2, a3] t)).alloc (.cells #[b0, b1, b2, b3] t)).alloc (.cells #[k0] u)).alloc (.cells #[.int .i64 0, .int .i64 0, .int .i64 0, .int .i64 0] t)).cell? ⟨w.heap.size + 1, 3, none⟩ = some (b3) ∧
    ((((w.alloc (.cells #[a0, a1, a2, a3] t)).alloc (.cells #[b0, b1, b2, b3] t)).alloc (.cells #[k0] u)).alloc (.cells #[.int .i64 0, .int .i64 0, .int .i64 0, .int .i64 0] t)).cell? ⟨w.heap.size + 2, 0, none⟩ = some (k0) ∧
    ((((w.alloc (.cells #[a0, a1, a2, a3] t)).alloc (.cells #[b0, b1, b2, b3] t)).alloc (.cells #[k0] u)).alloc (.cells #[.int .i64 0, .int .i64 0, .int .i64 0, .int .i64 0] t)).cell? ⟨w.heap.size + 3, 0, none⟩ = some (.int .i64 0) ∧
    ((((w.alloc (.cells #[a0, a1, a2, a3] t)).alloc (.cells #[b0, b1, b2, b3] t)).alloc (.cells #[k0] u)).alloc (.cells #[.int .i64 0, .int .i64 0, .int .i64 0, .int .i64 0] t)).cell? ⟨w.heap.size + 3, 1, none⟩ = some (.int .i64 0) ∧
    ((((w.alloc (.cells #[a0, a1, a2, a3] t)).alloc (.cells #[b0, b1, b2, b3] t)).alloc (.cells #[k0] u)).alloc (.cells #[.int .i64 0, .int .i64 0, .int .i64 0, .int .i64 0] t)).cell? ⟨w.heap.size + 3, 2, none⟩ = some (.int .i64 0) ∧
    ((((w.alloc (.cells #[a0, a1, a2, a3] t)).alloc (.cells #[b0, b1, b2, b3] t)).alloc (.cells #[k0] u)).alloc (.cells #[.int .i64 0, .int .i64 0, .int .i64 0, .int .i64 0] t)).cell? ⟨w.heap.size + 3, 3, none⟩ = some (.int .i64 0) ∧
    ((((w.alloc (.cells #[a0, a1, a2, a3] t)).alloc (.cells #[b0, b1, b2, b3] t)).alloc (.cells #[k0] u)).alloc (.cells #[.int .i64 0, .int .i64 0, .int .i64 0, .int .i64 0] t)).frozen? ⟨w.heap.size + 3, 0, none⟩ = false ∧
    ((((w.alloc (.cells #[a0, a1, a2, a3] t)).alloc (.cells #[b0, b1, b2, b3] t)).alloc (.cells #[k0] u)).alloc (.cells #[.int .i64 0, .int .i64 0, .int .i64 0, .int .i64 0] t)).frozen? ⟨w.heap.size + 3, 1, none⟩ = false ∧
    ((((w.alloc (.cells #[a0, a1, a2, a3] t)).alloc (.cells #[b0, b1, b2, b3] t)).alloc (.cells #[k0] u)).alloc (.cells #[.int .i64 0, .int .i64 0, .int .i64 0, .int .i64 0] t)).frozen? ⟨w.heap.size + 3, 2, none⟩ = false ∧
    ((((w.alloc (.cells #[a0, a1, a2, a3] t)).alloc (.cells #[b0, b1, b2, b3] t)).alloc (.cells #[k0] u)).alloc (.cells #[.int .i64 0, .int .i64 0, .int .i64 0, .int .i64 0] t)).frozen? ⟨w.heap.size + 3, 3, none⟩ = false := by
  have BB : Below w.heap.size w w := Below.refl _ _
  have z0 : w.heap.size = w.heap.size := by simp
  obtain ⟨B, BB⟩ := box_on BB #[a0, a1, a2, a3] t
  have p0_0 := box_cell w #[a0, a1, a2, a3] t 0 _ rfl
  have p0_1 := box_cell w #[a0, a1, a2, a3] t 1 _ rfl
  have p0_2 := box_cell w #[a0, a1, a2, a3] t 2 _ rfl
  have p0_3 := box_cell w #[a0, a1, a2, a3] t 3 _ rfl
  rw [z0] at p0_0 p0_1 p0_2 p0_3
  have z1 : (w.alloc (.cells #[a0, a1, a2, a3] t)).heap.size = w.heap.size + 1 := by simp
  obtain ⟨B, BB⟩ := box_on BB #[b0, b1, b2, b3] t
  replace p0_0 := cell_below B p0_0
  replace p0_1 := cell_below B p0_1
  replace p0_2 := cell_below B p0_2
  replace p0_3 := cell_below B p0_3
  have p1_0 := box_cell (w.alloc (.cells #[a0, a1, a2, a3] t)) #[b0, b1, b2, b3] t 0 _ rfl
  have p1_1 := box_cell (w.alloc (.cells #[a0, a1, a2, a3] t)) #[b0, b1, b2, b3] t 1 _ rfl
  have p1_2 := box_cell (w.alloc (.cells #[a0, a1, a2, a3] t)) #[b0, b1, b2, b3] t 2 _ rfl
  have p1_3 := box_cell (w.alloc (.cells #[a0, a1, a2, a3] t)) #[b0, b1, b2, b3] t 3 _ rfl
  rw [z1] at p1_0 p1_1 p1_2 p1_3
  have z2 : ((w.alloc (.cells #[a0, a1, a2, a3] t)).alloc (.cells #[b0, b1, b2, b3] t)).heap.size = w.heap.size + 2 := by simp
  obtain ⟨B, BB⟩ := box_on BB #[k0] u
  replace p0_0 := cell_below B p0_0
  replace p0_1 := cell_below B p0_1
  replace p0_2 := cell_below B p0_2
  replace p0_3 := cell_below B p0_3
  replace p1_0 := cell_below B p1_0
  replace p1_1 := cell_below B p1_1
  replace p1_2 := cell_below B p1_2
  replace p1_3 := cell_below B p1_3
  have p2_0 := box_cell ((w.alloc (.cells #[a0, a1, a2, a3] t)).alloc (.cells #[b0, b1, b2, b3] t)) #[k0] u 0 _ rfl
  rw [z2] at p2_0
  have z3 : (((w.alloc (.cells #[a0, a1, a2, a3] t)).alloc (.cells #[b0, b1, b2, b3] t)).alloc (.cells #[k0] u)).heap.size = w.heap.size + 3 := by simp
  obtain ⟨B, BB⟩ := box_on BB #[.int .i64 0, .int .i64 0, .int .i64 0, .int .i64 0] t
  replace p0_0 := cell_below B p0_0
  replace p0_1 := cell_below B p0_1
  replace p0_2 := cell_below B p0_2
  replace p0_3 := cell_below B p0_3
  replace p1_0 := cell_below B p1_0
  replace p1_1 := cell_below B p1_1
  replace p1_2 := cell_below B p1_2
  replace p1_3 := cell_below B p1_3
  replace p2_0 := cell_below B p2_0
  have p3_0 := box_cell (((w.alloc (.cells #[a0, a1, a2, a3] t)).alloc (.cells #[b0, b1, b2, b3] t)).alloc (.cells #[k0] u)) #[.int .i64 0, .int .i64 0, .int .i64 0, .int .i64 0] t 0 _ rfl
  have p3_1 := box_cell (((w.alloc (.cells #[a0, a1, a2, a3] t)).alloc (.cells #[b0, b1, b2, b3] t)).alloc (.cells #[k0] u)) #[.int .i64 0, .int .i64 0, .int .i64 0, .int .i64 0] t 1 _ rfl
  have p3_2 := box_cell (((w.alloc (.cells #[a0, a1, a2, a3] t)).alloc (.cells #[b0, b1, b2, b3] t)).alloc (.cells #[k0] u)) #[.int .i64 0, .int .i64 0, .int .i64 0, .int .i64 0] t 2 _ rfl
  have p3_3 := box_cell (((w.alloc (.cells #[a0, a1, a2, a3] t)).alloc (.cells #[b0, b1, b2, b3] t)).alloc (.cells #[k0] u)) #[.int .i64 0, .int .i64 0, .int .i64 0, .int .i64 0] t 3 _ rfl
  rw [z3] at p3_0 p3_1 p3_2 p3_3
  have f3_0 : ((((w.alloc (.cells #[a0, a1, a2, a3] t)).alloc (.cells #[b0, b1, b2, b3] t)).alloc (.cells #[k0] u)).alloc (.cells #[.int .i64 0, .int .i64 0, .int .i64 0, .int .i64 0] t)).frozen? ⟨w.heap.size + 3, 0, none⟩ = false := by rw [frozen?_alloc_cells, frozen?_alloc_cells, frozen?_alloc_cells, frozen?_alloc_cells]; unfold World.frozen?; simp
  have f3_1 : ((((w.alloc (.cells #[a0, a1, a2, a3] t)).alloc (.cells #[b0, b1, b2, b3] t)).alloc (.cells #[k0] u)).alloc (.cells #[.int .i64 0, .int .i64 0, .int .i64 0, .int .i64 0] t)).frozen? ⟨w.heap.size + 3, 1, none⟩ = false := by rw [frozen?_alloc_cells, frozen?_alloc_cells, frozen?_alloc_cells, frozen?_alloc_cells]; unfold World.frozen?; simp
  have f3_2 : ((((w.alloc (.cells #[a0, a1, a2, a3] t)).alloc (.cells #[b0, b1, b2, b3] t)).alloc (.cells #[k0] u)).alloc (.cells #[.int .i64 0, .int .i64 0, .int .i64 0, .int .i64 0] t)).frozen? ⟨w.heap.size + 3, 2, none⟩ = false := by rw [frozen?_alloc_cells, frozen?_alloc_cells, frozen?_alloc_cells, frozen?_alloc_cells]; unfold World.frozen?; simp
  have f3_3 : ((((w.alloc (.cells #[a0, a1, a2, a3] t)).alloc (.cells #[b0, b1, b2, b3] t)).alloc (.cells #[k0] u)).alloc (.cells #[.int .i64 0, .int .i64 0, .int .i64 0, .int .i64 0] t)).frozen? ⟨w.heap.size + 3, 3, none⟩ = false := by rw [frozen?_alloc_cells, frozen?_alloc_cells, frozen?_alloc_cells, frozen?_alloc_cells]; unfold World.frozen?; simp
  exact ⟨BB, p0_0, p0_1, p0_2, p0_3, p1_0, p1_1, p1_2, p1_3, p2_0, p3_0, p3_1, p3_2, p3_3, f3_0, f3_1, f3_2, f3_3⟩

def imax (x y : Int) : Int := if x < y then y else x
theorem scl_b (x k : Int) (p : Addr) (w : World) (c : w.cell? p = some (.int .i64 k)) :
    Calls Try.prog 44 #[.int .i64 x, .pointer (some p)] w fun e w' => e = .returned (.int .i64 (mulv x k)) ∧ Below w.heap.size w w' := by
  obtain ⟨pb, pi, pm⟩ := p
  go_enter Try.func44, Try.ntmps44
  go_wp2_with (go_at_call 41; refine (mul_b _ _ _).mono ?_; rintro _ _ ⟨rfl, B⟩)
  go_ret
  exact ⟨rfl, B⟩

theorem lrp_b (x y k : Int) (p : Addr) (w : World) (c : w.cell? p = some (.int .i64 k)) :
    Calls Try.prog 45 #[.int .i64 x, .int .i64 y, .pointer (some p)] w fun e w' => e = .returned (.int .i64 (lerpv x y k)) ∧ Below w.heap.size w w' := by
  obtain ⟨pb, pi, pm⟩ := p
  go_enter Try.func45, Try.ntmps45
  go_wp2_with (go_at_call 46; refine (lerp_b _ _ _ _).mono ?_; rintro _ _ ⟨rfl, B⟩)
  go_ret
  exact ⟨rfl, B⟩

theorem minf_b (x y : Int) (w : World) :
    Calls Try.prog 48 #[.int .i64 x, .int .i64 y] w fun e w' => e = .returned (.int .i64 (imin x y)) ∧ Below w.heap.size w w' := by
  have hmin : ∀ (ts : Array TypeId) (t : TypeId) (x y : Int) (w : World), (Builtin.min_ ts t #[.int .i64 x, .int .i64 y]).run Try.prog w = .ok (.int .i64 (imin x y)) w := fun ts t x y w => by simp [Builtin.min_, Builtin.min2, imin]
  go_enter Try.func48, Try.ntmps48
  go_wp2
  go_ret
  exact ⟨rfl, Below.refl _ _⟩

theorem maxf_b (x y : Int) (w : World) :
    Calls Try.prog 49 #[.int .i64 x, .int .i64 y] w fun e w' => e = .returned (.int .i64 (imax x y)) ∧ Below w.heap.size w w' := by
  have hmax : ∀ (ts : Array TypeId) (t : TypeId) (x y : Int) (w : World), (Builtin.max_ ts t #[.int .i64 x, .int .i64 y]).run Try.prog w = .ok (.int .i64 (imax x y)) w := fun ts t x y w => by simp [Builtin.max_, Builtin.max2, imax]
  go_enter Try.func49, Try.ntmps49
  go_wp2
  go_ret
  exact ⟨rfl, Below.refl _ _⟩

theorem clm_b (x : Int) (w : World) :
    Calls Try.prog 50 #[.int .i64 x] w fun e w' => e = .returned (.int .i64 (clampv x 0 65536)) ∧ Below w.heap.size w w' := by
  go_enter Try.func50, Try.ntmps50
  go_wp2_with (go_at_call 51; refine (clamp_b _ _ _ _).mono ?_; rintro _ _ ⟨rfl, B⟩)
  go_ret
  exact ⟨rfl, B⟩

theorem add4 (x0 x1 x2 x3 y0 y1 y2 y3 : Int) (w : World) :
    Calls Try.prog 9 #[.agg #[.int .i64 x0, .int .i64 x1, .int .i64 x2, .int .i64 x3], .agg #[.int .i64 y0, .int .i64 y1, .int .i64 y2, .int .i64 y3]] w fun e w' =>
      e = .returned (.agg #[.int .i64 (addv x0 y0), .int .i64 (addv x1 y1), .int .i64 (addv x2 y2), .int .i64 (addv x3 y3)]) ∧ Below w.heap.size w w' := by
  obtain ⟨BB, a0, a1, a2, a3, b0, b1, b2, b3, d0, d1, d2, d3, f0, f1, f2, f3⟩ := args2 w (.int .i64 x0) (.int .i64 x1) (.int .i64 x2) (.int .i64 x3) (.int .i64 y0) (.int .i64 y1) (.int .i64 y2) (.int .i64 y3) 23
  go_enter Try.func9, Try.ntmps9
  go_wp2_with (first | (go_at_call 36; refine (eachtwo_b 37 #[] addv _ _ _ _ _ _ _ _ _ (enters_of Try.func37 (by kernel_rfl) rfl) (fun _ _ _ _ => add_b _ _ _)).mono ?_; rintro _ _ ⟨rfl, B⟩; replace BB := bon BB B; replace f0 := frozen_below B d0 f0; replace f1 := frozen_below B d1 f1; replace f2 := frozen_below B d2 f2; replace f3 := frozen_below B d3 f3; replace a0 := cell_below B a0; replace a1 := cell_below B a1; replace a2 := cell_below B a2; replace a3 := cell_below B a3; replace b0 := cell_below B b0; replace b1 := cell_below B b1; replace b2 := cell_below B b2; replace b3 := cell_below B b3; replace d0 := cell_below B d0; replace d1 := cell_below B d1; replace d2 := cell_below B d2; replace d3 := cell_below B d3))
  exact bodyPost_ret (v := .agg #[.int .i64 (addv x0 y0), .int .i64 (addv x1 y1), .int .i64 (addv x2 y2), .int .i64 (addv x3 y3)]) (by simp [results, Try.results9, go_sem, *]) rfl ⟨rfl, (((BB.setCell (by simp; omega) _).setCell (by simp; omega) _).setCell (by simp; omega) _).setCell (by simp; omega) _⟩

theorem sub4 (x0 x1 x2 x3 y0 y1 y2 y3 : Int) (w : World) :
    Calls Try.prog 11 #[.agg #[.int .i64 x0, .int .i64 x1, .int .i64 x2, .int .i64 x3], .agg #[.int .i64 y0, .int .i64 y1, .int .i64 y2, .int .i64 y3]] w fun e w' =>
      e = .returned (.agg #[.int .i64 (subv x0 y0), .int .i64 (subv x1 y1), .int .i64 (subv x2 y2), .int .i64 (subv x3 y3)]) ∧ Below w.heap.size w w' := by
  obtain ⟨BB, a0, a1, a2, a3, b0, b1, b2, b3, d0, d1, d2, d3, f0, f1, f2, f3⟩ := args2 w (.int .i64 x0) (.int .i64 x1) (.int .i64 x2) (.int .i64 x3) (.int .i64 y0) (.int .i64 y1) (.int .i64 y2) (.int .i64 y3) 23
  go_enter Try.func11, Try.ntmps11
  go_wp2_with (first | (go_at_call 36; refine (eachtwo_b 39 #[] subv _ _ _ _ _ _ _ _ _ (enters_of Try.func39 (by kernel_rfl) rfl) (fun _ _ _ _ => sub_b _ _ _)).mono ?_; rintro _ _ ⟨rfl, B⟩; replace BB := bon BB B; replace f0 := frozen_below B d0 f0; replace f1 := frozen_below B d1 f1; replace f2 := frozen_below B d2 f2; replace f3 := frozen_below B d3 f3; replace a0 := cell_below B a0; replace a1 := cell_below B a1; replace a2 := cell_below B a2; replace a3 := cell_below B a3; replace b0 := cell_below B b0; replace b1 := cell_below B b1; replace b2 := cell_below B b2; replace b3 := cell_below B b3; replace d0 := cell_below B d0; replace d1 := cell_below B d1; replace d2 := cell_below B d2; replace d3 := cell_below B d3))
  exact bodyPost_ret (v := .agg #[.int .i64 (subv x0 y0), .int .i64 (subv x1 y1), .int .i64 (subv x2 y2), .int .i64 (subv x3 y3)]) (by simp [results, Try.results11, go_sem, *]) rfl ⟨rfl, (((BB.setCell (by simp; omega) _).setCell (by simp; omega) _).setCell (by simp; omega) _).setCell (by simp; omega) _⟩

theorem mul4 (x0 x1 x2 x3 y0 y1 y2 y3 : Int) (w : World) :
    Calls Try.prog 13 #[.agg #[.int .i64 x0, .int .i64 x1, .int .i64 x2, .int .i64 x3], .agg #[.int .i64 y0, .int .i64 y1, .int .i64 y2, .int .i64 y3]] w fun e w' =>
      e = .returned (.agg #[.int .i64 (mulv x0 y0), .int .i64 (mulv x1 y1), .int .i64 (mulv x2 y2), .int .i64 (mulv x3 y3)]) ∧ Below w.heap.size w w' := by
  obtain ⟨BB, a0, a1, a2, a3, b0, b1, b2, b3, d0, d1, d2, d3, f0, f1, f2, f3⟩ := args2 w (.int .i64 x0) (.int .i64 x1) (.int .i64 x2) (.int .i64 x3) (.int .i64 y0) (.int .i64 y1) (.int .i64 y2) (.int .i64 y3) 23
  go_enter Try.func13, Try.ntmps13
  go_wp2_with (first | (go_at_call 36; refine (eachtwo_b 41 #[] mulv _ _ _ _ _ _ _ _ _ (enters_of Try.func41 (by kernel_rfl) rfl) (fun _ _ _ _ => mul_b _ _ _)).mono ?_; rintro _ _ ⟨rfl, B⟩; replace BB := bon BB B; replace f0 := frozen_below B d0 f0; replace f1 := frozen_below B d1 f1; replace f2 := frozen_below B d2 f2; replace f3 := frozen_below B d3 f3; replace a0 := cell_below B a0; replace a1 := cell_below B a1; replace a2 := cell_below B a2; replace a3 := cell_below B a3; replace b0 := cell_below B b0; replace b1 := cell_below B b1; replace b2 := cell_below B b2; replace b3 := cell_below B b3; replace d0 := cell_below B d0; replace d1 := cell_below B d1; replace d2 := cell_below B d2; replace d3 := cell_below B d3))
  exact bodyPost_ret (v := .agg #[.int .i64 (mulv x0 y0), .int .i64 (mulv x1 y1), .int .i64 (mulv x2 y2), .int .i64 (mulv x3 y3)]) (by simp [results, Try.results13, go_sem, *]) rfl ⟨rfl, (((BB.setCell (by simp; omega) _).setCell (by simp; omega) _).setCell (by simp; omega) _).setCell (by simp; omega) _⟩

theorem min4 (x0 x1 x2 x3 y0 y1 y2 y3 : Int) (w : World) :
    Calls Try.prog 19 #[.agg #[.int .i64 x0, .int .i64 x1, .int .i64 x2, .int .i64 x3], .agg #[.int .i64 y0, .int .i64 y1, .int .i64 y2, .int .i64 y3]] w fun e w' =>
      e = .returned (.agg #[.int .i64 (imin x0 y0), .int .i64 (imin x1 y1), .int .i64 (imin x2 y2), .int .i64 (imin x3 y3)]) ∧ Below w.heap.size w w' := by
  obtain ⟨BB, a0, a1, a2, a3, b0, b1, b2, b3, d0, d1, d2, d3, f0, f1, f2, f3⟩ := args2 w (.int .i64 x0) (.int .i64 x1) (.int .i64 x2) (.int .i64 x3) (.int .i64 y0) (.int .i64 y1) (.int .i64 y2) (.int .i64 y3) 23
  go_enter Try.func19, Try.ntmps19
  go_wp2_with (first | (go_at_call 36; refine (eachtwo_b 48 #[] imin _ _ _ _ _ _ _ _ _ (enters_of Try.func48 (by kernel_rfl) rfl) (fun _ _ _ _ => minf_b _ _ _)).mono ?_; rintro _ _ ⟨rfl, B⟩; replace BB := bon BB B; replace f0 := frozen_below B d0 f0; replace f1 := frozen_below B d1 f1; replace f2 := frozen_below B d2 f2; replace f3 := frozen_below B d3 f3; replace a0 := cell_below B a0; replace a1 := cell_below B a1; replace a2 := cell_below B a2; replace a3 := cell_below B a3; replace b0 := cell_below B b0; replace b1 := cell_below B b1; replace b2 := cell_below B b2; replace b3 := cell_below B b3; replace d0 := cell_below B d0; replace d1 := cell_below B d1; replace d2 := cell_below B d2; replace d3 := cell_below B d3))
  exact bodyPost_ret (v := .agg #[.int .i64 (imin x0 y0), .int .i64 (imin x1 y1), .int .i64 (imin x2 y2), .int .i64 (imin x3 y3)]) (by simp [results, Try.results19, go_sem, *]) rfl ⟨rfl, (((BB.setCell (by simp; omega) _).setCell (by simp; omega) _).setCell (by simp; omega) _).setCell (by simp; omega) _⟩

theorem max4 (x0 x1 x2 x3 y0 y1 y2 y3 : Int) (w : World) :
    Calls Try.prog 21 #[.agg #[.int .i64 x0, .int .i64 x1, .int .i64 x2, .int .i64 x3], .agg #[.int .i64 y0, .int .i64 y1, .int .i64 y2, .int .i64 y3]] w fun e w' =>
      e = .returned (.agg #[.int .i64 (imax x0 y0), .int .i64 (imax x1 y1), .int .i64 (imax x2 y2), .int .i64 (imax x3 y3)]) ∧ Below w.heap.size w w' := by
  obtain ⟨BB, a0, a1, a2, a3, b0, b1, b2, b3, d0, d1, d2, d3, f0, f1, f2, f3⟩ := args2 w (.int .i64 x0) (.int .i64 x1) (.int .i64 x2) (.int .i64 x3) (.int .i64 y0) (.int .i64 y1) (.int .i64 y2) (.int .i64 y3) 23
  go_enter Try.func21, Try.ntmps21
  go_wp2_with (first | (go_at_call 36; refine (eachtwo_b 49 #[] imax _ _ _ _ _ _ _ _ _ (enters_of Try.func49 (by kernel_rfl) rfl) (fun _ _ _ _ => maxf_b _ _ _)).mono ?_; rintro _ _ ⟨rfl, B⟩; replace BB := bon BB B; replace f0 := frozen_below B d0 f0; replace f1 := frozen_below B d1 f1; replace f2 := frozen_below B d2 f2; replace f3 := frozen_below B d3 f3; replace a0 := cell_below B a0; replace a1 := cell_below B a1; replace a2 := cell_below B a2; replace a3 := cell_below B a3; replace b0 := cell_below B b0; replace b1 := cell_below B b1; replace b2 := cell_below B b2; replace b3 := cell_below B b3; replace d0 := cell_below B d0; replace d1 := cell_below B d1; replace d2 := cell_below B d2; replace d3 := cell_below B d3))
  exact bodyPost_ret (v := .agg #[.int .i64 (imax x0 y0), .int .i64 (imax x1 y1), .int .i64 (imax x2 y2), .int .i64 (imax x3 y3)]) (by simp [results, Try.results21, go_sem, *]) rfl ⟨rfl, (((BB.setCell (by simp; omega) _).setCell (by simp; omega) _).setCell (by simp; omega) _).setCell (by simp; omega) _⟩

theorem clamp4 (x0 x1 x2 x3 : Int) (w : World) :
    Calls Try.prog 23 #[.agg #[.int .i64 x0, .int .i64 x1, .int .i64 x2, .int .i64 x3]] w fun e w' =>
      e = .returned (.agg #[.int .i64 (clampv x0 0 65536), .int .i64 (clampv x1 0 65536), .int .i64 (clampv x2 0 65536), .int .i64 (clampv x3 0 65536)]) ∧ Below w.heap.size w w' := by
  obtain ⟨BB, a0, a1, a2, a3, d0, d1, d2, d3, f0, f1, f2, f3⟩ := args1 w (.int .i64 x0) (.int .i64 x1) (.int .i64 x2) (.int .i64 x3) 23
  go_enter Try.func23, Try.ntmps23
  go_wp2_with (first | (go_at_call 43; refine (each_b 50 #[] (fun x => clampv x 0 65536) _ _ _ _ _ (enters_of Try.func50 (by kernel_rfl) rfl) (fun _ _ _ => clm_b _ _)).mono ?_; rintro _ _ ⟨rfl, B⟩; replace BB := bon BB B; replace f0 := frozen_below B d0 f0; replace f1 := frozen_below B d1 f1; replace f2 := frozen_below B d2 f2; replace f3 := frozen_below B d3 f3; replace a0 := cell_below B a0; replace a1 := cell_below B a1; replace a2 := cell_below B a2; replace a3 := cell_below B a3; replace d0 := cell_below B d0; replace d1 := cell_below B d1; replace d2 := cell_below B d2; replace d3 := cell_below B d3))
  exact bodyPost_ret (v := .agg #[.int .i64 (clampv x0 0 65536), .int .i64 (clampv x1 0 65536), .int .i64 (clampv x2 0 65536), .int .i64 (clampv x3 0 65536)]) (by simp [results, Try.results23, go_sem, *]) rfl ⟨rfl, (((BB.setCell (by simp) _).setCell (by simp) _).setCell (by simp) _).setCell (by simp) _⟩

theorem scale4 (x0 x1 x2 x3 k : Int) (w : World) :
    Calls Try.prog 15 #[.agg #[.int .i64 x0, .int .i64 x1, .int .i64 x2, .int .i64 x3], .int .i64 k] w fun e w' =>
      e = .returned (.agg #[.int .i64 (mulv x0 k), .int .i64 (mulv x1 k), .int .i64 (mulv x2 k), .int .i64 (mulv x3 k)]) ∧ Below w.heap.size w w' := by
  obtain ⟨BB, a0, a1, a2, a3, k0, d0, d1, d2, d3, f0, f1, f2, f3⟩ := args1k w (.int .i64 x0) (.int .i64 x1) (.int .i64 x2) (.int .i64 x3) (.int .i64 k) 23 3
  go_enter Try.func15, Try.ntmps15
  go_wp2_with (first | (go_at_call 43; refine (each_b 44 #[_] (fun x => mulv x k) _ _ _ _ _ (enters_of Try.func44 (by kernel_rfl) rfl) (fun _ _ h => scl_b _ _ _ _ (cell_below h k0))).mono ?_; rintro _ _ ⟨rfl, B⟩; replace BB := bon BB B; replace f0 := frozen_below B d0 f0; replace f1 := frozen_below B d1 f1; replace f2 := frozen_below B d2 f2; replace f3 := frozen_below B d3 f3; replace a0 := cell_below B a0; replace a1 := cell_below B a1; replace a2 := cell_below B a2; replace a3 := cell_below B a3; replace k0 := cell_below B k0; replace d0 := cell_below B d0; replace d1 := cell_below B d1; replace d2 := cell_below B d2; replace d3 := cell_below B d3))
  exact bodyPost_ret (v := .agg #[.int .i64 (mulv x0 k), .int .i64 (mulv x1 k), .int .i64 (mulv x2 k), .int .i64 (mulv x3 k)]) (by simp [results, Try.results15, go_sem, *]) rfl ⟨rfl, (((BB.setCell (by simp; omega) _).setCell (by simp; omega) _).setCell (by simp; omega) _).setCell (by simp; omega) _⟩

theorem lerp4 (x0 x1 x2 x3 y0 y1 y2 y3 k : Int) (w : World) :
    Calls Try.prog 17 #[.agg #[.int .i64 x0, .int .i64 x1, .int .i64 x2, .int .i64 x3], .agg #[.int .i64 y0, .int .i64 y1, .int .i64 y2, .int .i64 y3], .int .i64 k] w fun e w' =>
      e = .returned (.agg #[.int .i64 (lerpv x0 y0 k), .int .i64 (lerpv x1 y1 k), .int .i64 (lerpv x2 y2 k), .int .i64 (lerpv x3 y3 k)]) ∧ Below w.heap.size w w' := by
  obtain ⟨BB, a0, a1, a2, a3, b0, b1, b2, b3, k0, d0, d1, d2, d3, f0, f1, f2, f3⟩ := args2k w (.int .i64 x0) (.int .i64 x1) (.int .i64 x2) (.int .i64 x3) (.int .i64 y0) (.int .i64 y1) (.int .i64 y2) (.int .i64 y3) (.int .i64 k) 23 3
  go_enter Try.func17, Try.ntmps17
  go_wp2_with (first | (go_at_call 36; refine (eachtwo_b 45 #[_] (fun x y => lerpv x y k) _ _ _ _ _ _ _ _ _ (enters_of Try.func45 (by kernel_rfl) rfl) (fun _ _ _ h => lrp_b _ _ _ _ _ (cell_below h k0))).mono ?_; rintro _ _ ⟨rfl, B⟩; replace BB := bon BB B; replace f0 := frozen_below B d0 f0; replace f1 := frozen_below B d1 f1; replace f2 := frozen_below B d2 f2; replace f3 := frozen_below B d3 f3; replace a0 := cell_below B a0; replace a1 := cell_below B a1; replace a2 := cell_below B a2; replace a3 := cell_below B a3; replace b0 := cell_below B b0; replace b1 := cell_below B b1; replace b2 := cell_below B b2; replace b3 := cell_below B b3; replace k0 := cell_below B k0; replace d0 := cell_below B d0; replace d1 := cell_below B d1; replace d2 := cell_below B d2; replace d3 := cell_below B d3))
  exact bodyPost_ret (v := .agg #[.int .i64 (lerpv x0 y0 k), .int .i64 (lerpv x1 y1 k), .int .i64 (lerpv x2 y2 k), .int .i64 (lerpv x3 y3 k)]) (by simp [results, Try.results17, go_sem, *]) rfl ⟨rfl, (((BB.setCell (by simp; omega) _).setCell (by simp; omega) _).setCell (by simp; omega) _).setCell (by simp; omega) _⟩

end Go.Proofs.Ytaonchonpikfmaa
