/- What the calls of package vec return: lists, components, and the dot product. -/
import Derived.Test.YtcjlgfadjedgbaaVec2
namespace Go.Proofs.Ytcjlgfadjedgbaa
open Go.RowKit Go.Sort

/-- Four cells and a result of another type, each in a block of its own; two results. -/
theorem argsar (w : World) (a0 a1 a2 a3 : Value) (t u : TypeId) :
    Below w.heap.size w ((w.alloc (.cells #[a0, a1, a2, a3] t)).alloc (.cells #[.int .i64 0, .int .i64 0, .int .i64 0, .int .i64 0] u)) ∧
    ((w.alloc (.cells #[a0, a1, a2, a3] t)).alloc (.cells #[.int .i64 0, .int .i64 0, .int .i64 0, .int .i64 0] u)).cell? ⟨w.heap.size, 0, none⟩ = some (a0) ∧
    ((w.alloc (.cells #[a0, a1, a2, a3] t)).alloc (.cells #[.int .i64 0, .int .i64 0, .int .i64 0, .int .i64 0] u)).cell? ⟨w.heap.size, 1, none⟩ = some (a1) ∧
    ((w.alloc (.cells #[a0, a1, a2, a3] t)).alloc (.cells #[.int .i64 0, .int .i64 0, .int .i64 0, .int .i64 0] u)).cell? ⟨w.heap.size, 2, none⟩ = some (a2) ∧
    ((w.alloc (.cells #[a0, a1, a2, a3] t)).alloc (.cells #[.int .i64 0, .int .i64 0, .int .i64 0, .int .i64 0] u)).cell? ⟨w.heap.size, 3, none⟩ = some (a3) ∧
    ((w.alloc (.cells #[a0, a1, a2, a3] t)).alloc (.cells #[.int .i64 0, .int .i64 0, .int .i64 0, .int .i64 0] u)).cell? ⟨w.heap.size + 1, 0, none⟩ = some (.int .i64 0) ∧
    ((w.alloc (.cells #[a0, a1, a2, a3] t)).alloc (.cells #[.int .i64 0, .int .i64 0, .int .i64 0, .int .i64 0] u)).cell? ⟨w.heap.size + 1, 1, none⟩ = some (.int .i64 0) ∧
    ((w.alloc (.cells #[a0, a1, a2, a3] t)).alloc (.cells #[.int .i64 0, .int .i64 0, .int .i64 0, .int .i64 0] u)).cell? ⟨w.heap.size + 1, 2, none⟩ = some (.int .i64 0) ∧
    ((w.alloc (.cells #[a0, a1, a2, a3] t)).alloc (.cells #[.int .i64 0, .int .i64 0, .int .i64 0, .int .i64 0] u)).cell? ⟨w.heap.size + 1, 3, none⟩ = some (.int .i64 0) ∧
    ((w.alloc (.cells #[a0, a1, a2, a3] t)).alloc (.cells #[.int .i64 0, .int .i64 0, .int .i64 0, .int .i64 0] u)).frozen? ⟨w.heap.size + 1, 0, none⟩ = false ∧
    ((w.alloc (.cells #[a0, a1, a2, a3] t)).alloc (.cells #[.int .i64 0, .int .i64 0, .int .i64 0, .int .i64 0] u)).frozen? ⟨w.heap.size + 1, 1, none⟩ = false ∧
    ((w.alloc (.cells #[a0, a1, a2, a3] t)).alloc (.cells #[.int .i64 0, .int .i64 0, .int .i64 0, .int .i64 0] u)).frozen? ⟨w.heap.size + 1, 2, none⟩ = false ∧
    ((w.alloc (.cells #[a0, a1, a2, a3] t)).alloc (.cells #[.int .i64 0, .int .i64 0, .int .i64 0, .int .i64 0] u)).frozen? ⟨w.heap.size + 1, 3, none⟩ = false := by
  have BB : Below w.heap.size w w := Below.refl _ _
  have z0 : w.heap.size = w.heap.size := by simp
  obtain ⟨B, BB⟩ := box_on BB #[a0, a1, a2, a3] t
  have p0_0 := box_cell w #[a0, a1, a2, a3] t 0 _ rfl
  have p0_1 := box_cell w #[a0, a1, a2, a3] t 1 _ rfl
  have p0_2 := box_cell w #[a0, a1, a2, a3] t 2 _ rfl
  have p0_3 := box_cell w #[a0, a1, a2, a3] t 3 _ rfl
  rw [z0] at p0_0 p0_1 p0_2 p0_3
  have z1 : (w.alloc (.cells #[a0, a1, a2, a3] t)).heap.size = w.heap.size + 1 := by simp
  obtain ⟨B, BB⟩ := box_on BB #[.int .i64 0, .int .i64 0, .int .i64 0, .int .i64 0] u
  replace p0_0 := cell_below B p0_0
  replace p0_1 := cell_below B p0_1
  replace p0_2 := cell_below B p0_2
  replace p0_3 := cell_below B p0_3
  have p1_0 := box_cell (w.alloc (.cells #[a0, a1, a2, a3] t)) #[.int .i64 0, .int .i64 0, .int .i64 0, .int .i64 0] u 0 _ rfl
  have p1_1 := box_cell (w.alloc (.cells #[a0, a1, a2, a3] t)) #[.int .i64 0, .int .i64 0, .int .i64 0, .int .i64 0] u 1 _ rfl
  have p1_2 := box_cell (w.alloc (.cells #[a0, a1, a2, a3] t)) #[.int .i64 0, .int .i64 0, .int .i64 0, .int .i64 0] u 2 _ rfl
  have p1_3 := box_cell (w.alloc (.cells #[a0, a1, a2, a3] t)) #[.int .i64 0, .int .i64 0, .int .i64 0, .int .i64 0] u 3 _ rfl
  rw [z1] at p1_0 p1_1 p1_2 p1_3
  have f1_0 : ((w.alloc (.cells #[a0, a1, a2, a3] t)).alloc (.cells #[.int .i64 0, .int .i64 0, .int .i64 0, .int .i64 0] u)).frozen? ⟨w.heap.size + 1, 0, none⟩ = false := by rw [frozen?_alloc_cells, frozen?_alloc_cells]; unfold World.frozen?; simp
  have f1_1 : ((w.alloc (.cells #[a0, a1, a2, a3] t)).alloc (.cells #[.int .i64 0, .int .i64 0, .int .i64 0, .int .i64 0] u)).frozen? ⟨w.heap.size + 1, 1, none⟩ = false := by rw [frozen?_alloc_cells, frozen?_alloc_cells]; unfold World.frozen?; simp
  have f1_2 : ((w.alloc (.cells #[a0, a1, a2, a3] t)).alloc (.cells #[.int .i64 0, .int .i64 0, .int .i64 0, .int .i64 0] u)).frozen? ⟨w.heap.size + 1, 2, none⟩ = false := by rw [frozen?_alloc_cells, frozen?_alloc_cells]; unfold World.frozen?; simp
  have f1_3 : ((w.alloc (.cells #[a0, a1, a2, a3] t)).alloc (.cells #[.int .i64 0, .int .i64 0, .int .i64 0, .int .i64 0] u)).frozen? ⟨w.heap.size + 1, 3, none⟩ = false := by rw [frozen?_alloc_cells, frozen?_alloc_cells]; unfold World.frozen?; simp
  exact ⟨BB, p0_0, p0_1, p0_2, p0_3, p1_0, p1_1, p1_2, p1_3, f1_0, f1_1, f1_2, f1_3⟩

theorem argsoo (w : World) (t u : TypeId) :
    Below w.heap.size w ((w.alloc (.cells #[.int .i64 0, .int .i64 0, .int .i64 0, .int .i64 0] t)).alloc (.cells #[.int .i64 0, .int .i64 0, .int .i64 0, .int .i64 0] u)) ∧
    ((w.alloc (.cells #[.int .i64 0, .int .i64 0, .int .i64 0, .int .i64 0] t)).alloc (.cells #[.int .i64 0, .int .i64 0, .int .i64 0, .int .i64 0] u)).cell? ⟨w.heap.size, 0, none⟩ = some (.int .i64 0) ∧
    ((w.alloc (.cells #[.int .i64 0, .int .i64 0, .int .i64 0, .int .i64 0] t)).alloc (.cells #[.int .i64 0, .int .i64 0, .int .i64 0, .int .i64 0] u)).cell? ⟨w.heap.size, 1, none⟩ = some (.int .i64 0) ∧
    ((w.alloc (.cells #[.int .i64 0, .int .i64 0, .int .i64 0, .int .i64 0] t)).alloc (.cells #[.int .i64 0, .int .i64 0, .int .i64 0, .int .i64 0] u)).cell? ⟨w.heap.size, 2, none⟩ = some (.int .i64 0) ∧
    ((w.alloc (.cells #[.int .i64 0, .int .i64 0, .int .i64 0, .int .i64 0] t)).alloc (.cells #[.int .i64 0, .int .i64 0, .int .i64 0, .int .i64 0] u)).cell? ⟨w.heap.size, 3, none⟩ = some (.int .i64 0) ∧
    ((w.alloc (.cells #[.int .i64 0, .int .i64 0, .int .i64 0, .int .i64 0] t)).alloc (.cells #[.int .i64 0, .int .i64 0, .int .i64 0, .int .i64 0] u)).cell? ⟨w.heap.size + 1, 0, none⟩ = some (.int .i64 0) ∧
    ((w.alloc (.cells #[.int .i64 0, .int .i64 0, .int .i64 0, .int .i64 0] t)).alloc (.cells #[.int .i64 0, .int .i64 0, .int .i64 0, .int .i64 0] u)).cell? ⟨w.heap.size + 1, 1, none⟩ = some (.int .i64 0) ∧
    ((w.alloc (.cells #[.int .i64 0, .int .i64 0, .int .i64 0, .int .i64 0] t)).alloc (.cells #[.int .i64 0, .int .i64 0, .int .i64 0, .int .i64 0] u)).cell? ⟨w.heap.size + 1, 2, none⟩ = some (.int .i64 0) ∧
    ((w.alloc (.cells #[.int .i64 0, .int .i64 0, .int .i64 0, .int .i64 0] t)).alloc (.cells #[.int .i64 0, .int .i64 0, .int .i64 0, .int .i64 0] u)).cell? ⟨w.heap.size + 1, 3, none⟩ = some (.int .i64 0) ∧
    ((w.alloc (.cells #[.int .i64 0, .int .i64 0, .int .i64 0, .int .i64 0] t)).alloc (.cells #[.int .i64 0, .int .i64 0, .int .i64 0, .int .i64 0] u)).frozen? ⟨w.heap.size, 0, none⟩ = false ∧
    ((w.alloc (.cells #[.int .i64 0, .int .i64 0, .int .i64 0, .int .i64 0] t)).alloc (.cells #[.int .i64 0, .int .i64 0, .int .i64 0, .int .i64 0] u)).frozen? ⟨w.heap.size, 1, none⟩ = false ∧
    ((w.alloc (.cells #[.int .i64 0, .int .i64 0, .int .i64 0, .int .i64 0] t)).alloc (.cells #[.int .i64 0, .int .i64 0, .int .i64 0, .int .i64 0] u)).frozen? ⟨w.heap.size, 2, none⟩ = false ∧
    ((w.alloc (.cells #[.int .i64 0, .int .i64 0, .int .i64 0, .int .i64 0] t)).alloc (.cells #[.int .i64 0, .int .i64 0, .int .i64 0, .int .i64 0] u)).frozen? ⟨w.heap.size, 3, none⟩ = false ∧
    ((w.alloc (.cells #[.int .i64 0, .int .i64 0, .int .i64 0, .int .i64 0] t)).alloc (.cells #[.int .i64 0, .int .i64 0, .int .i64 0, .int .i64 0] u)).frozen? ⟨w.heap.size + 1, 0, none⟩ = false ∧
    ((w.alloc (.cells #[.int .i64 0, .int .i64 0, .int .i64 0, .int .i64 0] t)).alloc (.cells #[.int .i64 0, .int .i64 0, .int .i64 0, .int .i64 0] u)).frozen? ⟨w.heap.size + 1, 1, none⟩ = false ∧
    ((w.alloc (.cells #[.int .i64 0, .int .i64 0, .int .i64 0, .int .i64 0] t)).alloc (.cells #[.int .i64 0, .int .i64 0, .int .i64 0, .int .i64 0] u)).frozen? ⟨w.heap.size + 1, 2, none⟩ = false ∧
    ((w.alloc (.cells #[.int .i64 0, .int .i64 0, .int .i64 0, .int .i64 0] t)).alloc (.cells #[.int .i64 0, .int .i64 0, .int .i64 0, .int .i64 0] u)).frozen? ⟨w.heap.size + 1, 3, none⟩ = false := by
  have BB : Below w.heap.size w w := Below.refl _ _
  have z0 : w.heap.size = w.heap.size := by simp
  obtain ⟨B, BB⟩ := box_on BB #[.int .i64 0, .int .i64 0, .int .i64 0, .int .i64 0] t
  have p0_0 := box_cell w #[.int .i64 0, .int .i64 0, .int .i64 0, .int .i64 0] t 0 _ rfl
  have p0_1 := box_cell w #[.int .i64 0, .int .i64 0, .int .i64 0, .int .i64 0] t 1 _ rfl
  have p0_2 := box_cell w #[.int .i64 0, .int .i64 0, .int .i64 0, .int .i64 0] t 2 _ rfl
  have p0_3 := box_cell w #[.int .i64 0, .int .i64 0, .int .i64 0, .int .i64 0] t 3 _ rfl
  rw [z0] at p0_0 p0_1 p0_2 p0_3
  have f0_0 : (w.alloc (.cells #[.int .i64 0, .int .i64 0, .int .i64 0, .int .i64 0] t)).frozen? ⟨w.heap.size, 0, none⟩ = false := by rw [frozen?_alloc_cells]; unfold World.frozen?; simp
  have f0_1 : (w.alloc (.cells #[.int .i64 0, .int .i64 0, .int .i64 0, .int .i64 0] t)).frozen? ⟨w.heap.size, 1, none⟩ = false := by rw [frozen?_alloc_cells]; unfold World.frozen?; simp
  have f0_2 : (w.alloc (.cells #[.int .i64 0, .int .i64 0, .int .i64 0, .int .i64 0] t)).frozen? ⟨w.heap.size, 2, none⟩ = false := by rw [frozen?_alloc_cells]; unfold World.frozen?; simp
  have f0_3 : (w.alloc (.cells #[.int .i64 0, .int .i64 0, .int .i64 0, .int .i64 0] t)).frozen? ⟨w.heap.size, 3, none⟩ = false := by rw [frozen?_alloc_cells]; unfold World.frozen?; simp
  have z1 : (w.alloc (.cells #[.int .i64 0, .int .i64 0, .int .i64 0, .int .i64 0] t)).heap.size = w.heap.size + 1 := by simp
  obtain ⟨B, BB⟩ := box_on BB #[.int .i64 0, .int .i64 0, .int .i64 0, .int .i64 0] u
  replace f0_0 := frozen_below B p0_0 f0_0
  replace f0_1 := frozen_below B p0_1 f0_1
  replace f0_2 := frozen_below B p0_2 f0_2
  replace f0_3 := frozen_below B p0_3 f0_3
  replace p0_0 := cell_below B p0_0
  replace p0_1 := cell_below B p0_1
  replace p0_2 := cell_below B p0_2
  replace p0_3 := cell_below B p0_3
  have p1_0 := box_cell (w.alloc (.cells #[.int .i64 0, .int .i64 0, .int .i64 0, .int .i64 0] t)) #[.int .i64 0, .int .i64 0, .int .i64 0, .int .i64 0] u 0 _ rfl
  have p1_1 := box_cell (w.alloc (.cells #[.int .i64 0, .int .i64 0, .int .i64 0, .int .i64 0] t)) #[.int .i64 0, .int .i64 0, .int .i64 0, .int .i64 0] u 1 _ rfl
  have p1_2 := box_cell (w.alloc (.cells #[.int .i64 0, .int .i64 0, .int .i64 0, .int .i64 0] t)) #[.int .i64 0, .int .i64 0, .int .i64 0, .int .i64 0] u 2 _ rfl
  have p1_3 := box_cell (w.alloc (.cells #[.int .i64 0, .int .i64 0, .int .i64 0, .int .i64 0] t)) #[.int .i64 0, .int .i64 0, .int .i64 0, .int .i64 0] u 3 _ rfl
  rw [z1] at p1_0 p1_1 p1_2 p1_3
  have f1_0 : ((w.alloc (.cells #[.int .i64 0, .int .i64 0, .int .i64 0, .int .i64 0] t)).alloc (.cells #[.int .i64 0, .int .i64 0, .int .i64 0, .int .i64 0] u)).frozen? ⟨w.heap.size + 1, 0, none⟩ = false := by rw [frozen?_alloc_cells, frozen?_alloc_cells]; unfold World.frozen?; simp
  have f1_1 : ((w.alloc (.cells #[.int .i64 0, .int .i64 0, .int .i64 0, .int .i64 0] t)).alloc (.cells #[.int .i64 0, .int .i64 0, .int .i64 0, .int .i64 0] u)).frozen? ⟨w.heap.size + 1, 1, none⟩ = false := by rw [frozen?_alloc_cells, frozen?_alloc_cells]; unfold World.frozen?; simp
  have f1_2 : ((w.alloc (.cells #[.int .i64 0, .int .i64 0, .int .i64 0, .int .i64 0] t)).alloc (.cells #[.int .i64 0, .int .i64 0, .int .i64 0, .int .i64 0] u)).frozen? ⟨w.heap.size + 1, 2, none⟩ = false := by rw [frozen?_alloc_cells, frozen?_alloc_cells]; unfold World.frozen?; simp
  have f1_3 : ((w.alloc (.cells #[.int .i64 0, .int .i64 0, .int .i64 0, .int .i64 0] t)).alloc (.cells #[.int .i64 0, .int .i64 0, .int .i64 0, .int .i64 0] u)).frozen? ⟨w.heap.size + 1, 3, none⟩ = false := by rw [frozen?_alloc_cells, frozen?_alloc_cells]; unfold World.frozen?; simp
  exact ⟨BB, p0_0, p0_1, p0_2, p0_3, p1_0, p1_1, p1_2, p1_3, f0_0, f0_1, f0_2, f0_3, f1_0, f1_1, f1_2, f1_3⟩

/-- Component i; the vector's component k with component i replaced. -/
def compv (x0 x1 x2 x3 i : Int) : Int := if i = 0 then x0 else if i = 1 then x1 else if i = 2 then x2 else if i = 3 then x3 else 0
def withv (i x k y : Int) : Int := if i = k then x else y

theorem five (i : Int) : (i < 0 ∨ 3 < i) ∨ i = 0 ∨ i = 1 ∨ i = 2 ∨ i = 3 := by omega

theorem idx0 (x0 x1 x2 x3 : Int) (w : World) : (Instr.index 72 (.agg #[.int .i64 x0, .int .i64 x1, .int .i64 x2, .int .i64 x3]) (.int .i64 0)).run Try.prog w = .ok (.int .i64 x0) w := by
  simp [Instr.index, run_underlying Try.underlying72, asIntOf, part, go_sem]

theorem idx1 (x0 x1 x2 x3 : Int) (w : World) : (Instr.index 72 (.agg #[.int .i64 x0, .int .i64 x1, .int .i64 x2, .int .i64 x3]) (.int .i64 1)).run Try.prog w = .ok (.int .i64 x1) w := by
  simp [Instr.index, run_underlying Try.underlying72, asIntOf, part, go_sem]

theorem idx2 (x0 x1 x2 x3 : Int) (w : World) : (Instr.index 72 (.agg #[.int .i64 x0, .int .i64 x1, .int .i64 x2, .int .i64 x3]) (.int .i64 2)).run Try.prog w = .ok (.int .i64 x2) w := by
  simp [Instr.index, run_underlying Try.underlying72, asIntOf, part, go_sem]

theorem idx3 (x0 x1 x2 x3 : Int) (w : World) : (Instr.index 72 (.agg #[.int .i64 x0, .int .i64 x1, .int .i64 x2, .int .i64 x3]) (.int .i64 3)).run Try.prog w = .ok (.int .i64 x3) w := by
  simp [Instr.index, run_underlying Try.underlying72, asIntOf, part, go_sem]

/-- A list of four numbers in new memory. -/
def LIs (x0 x1 x2 x3 : Int) (w : World) (e : Ending) (w' : World) : Prop :=
  ∃ b, e = .returned (.slice (some ⟨b, 0, none⟩) 4 4) ∧ w'.cell? ⟨b, 0, none⟩ = some (.int .i64 x0) ∧ w'.cell? ⟨b, 1, none⟩ = some (.int .i64 x1) ∧ w'.cell? ⟨b, 2, none⟩ = some (.int .i64 x2) ∧ w'.cell? ⟨b, 3, none⟩ = some (.int .i64 x3) ∧ Below w.heap.size w w'

/-- The dot product. -/
def dotv (x0 x1 x2 x3 y0 y1 y2 y3 : Int) : Int := sat (rda (sat x0 * sat y0 + sat x1 * sat y1 + sat x2 * sat y2 + sat x3 * sat y3) 65536)

theorem argsff (w : World) (a0 a1 a2 a3 b0 b1 b2 b3 : Value) (t : TypeId) :
    Below w.heap.size w ((w.alloc (.cells #[a0, a1, a2, a3] t)).alloc (.cells #[b0, b1, b2, b3] t)) ∧
    ((w.alloc (.cells #[a0, a1, a2, a3] t)).alloc (.cells #[b0, b1, b2, b3] t)).cell? ⟨w.heap.size, 0, none⟩ = some (a0) ∧
    ((w.alloc (.cells #[a0, a1, a2, a3] t)).alloc (.cells #[b0, b1, b2, b3] t)).cell? ⟨w.heap.size, 1, none⟩ = some (a1) ∧
    ((w.alloc (.cells #[a0, a1, a2, a3] t)).alloc (.cells #[b0, b1, b2, b3] t)).cell? ⟨w.heap.size, 2, none⟩ = some (a2) ∧
    ((w.alloc (.cells #[a0, a1, a2, a3] t)).alloc (.cells #[b0, b1, b2, b3] t)).cell? ⟨w.heap.size, 3, none⟩ = some (a3) ∧
    ((w.alloc (.cells #[a0, a1, a2, a3] t)).alloc (.cells #[b0, b1, b2, b3] t)).cell? ⟨w.heap.size + 1, 0, none⟩ = some (b0) ∧
    ((w.alloc (.cells #[a0, a1, a2, a3] t)).alloc (.cells #[b0, b1, b2, b3] t)).cell? ⟨w.heap.size + 1, 1, none⟩ = some (b1) ∧
    ((w.alloc (.cells #[a0, a1, a2, a3] t)).alloc (.cells #[b0, b1, b2, b3] t)).cell? ⟨w.heap.size + 1, 2, none⟩ = some (b2) ∧
    ((w.alloc (.cells #[a0, a1, a2, a3] t)).alloc (.cells #[b0, b1, b2, b3] t)).cell? ⟨w.heap.size + 1, 3, none⟩ = some (b3) := by
  have BB : Below w.heap.size w w := Below.refl _ _
  have z0 : w.heap.size = w.heap.size := by simp
  obtain ⟨B, BB⟩ := box_on BB #[a0, a1, a2, a3] t
  have p0_0 := box_cell w #[a0, a1, a2, a3] t 0 _ rfl
  have p0_1 := box_cell w #[a0, a1, a2, a3] t 1 _ rfl
  have p0_2 := box_cell w #[a0, a1, a2, a3] t 2 _ rfl
  have p0_3 := box_cell w #[a0, a1, a2, a3] t 3 _ rfl
  rw [z0] at p0_0 p0_1 p0_2 p0_3
  have z1 : (w.alloc (.cells #[a0, a1, a2, a3] t)).heap.size = w.heap.size + 1 := by simp
  obtain ⟨B, BB⟩ := box_on BB #[b0, b1, b2, b3] t
  replace p0_0 := cell_below B p0_0
  replace p0_1 := cell_below B p0_1
  replace p0_2 := cell_below B p0_2
  replace p0_3 := cell_below B p0_3
  have p1_0 := box_cell (w.alloc (.cells #[a0, a1, a2, a3] t)) #[b0, b1, b2, b3] t 0 _ rfl
  have p1_1 := box_cell (w.alloc (.cells #[a0, a1, a2, a3] t)) #[b0, b1, b2, b3] t 1 _ rfl
  have p1_2 := box_cell (w.alloc (.cells #[a0, a1, a2, a3] t)) #[b0, b1, b2, b3] t 2 _ rfl
  have p1_3 := box_cell (w.alloc (.cells #[a0, a1, a2, a3] t)) #[b0, b1, b2, b3] t 3 _ rfl
  rw [z1] at p1_0 p1_1 p1_2 p1_3
  exact ⟨BB, p0_0, p0_1, p0_2, p0_3, p1_0, p1_1, p1_2, p1_3⟩

theorem args2f (w : World) (a0 a1 a2 a3 b0 b1 b2 b3 : Value) (t : TypeId) :
    ((w.alloc (.cells #[a0, a1, a2, a3] t)).alloc (.cells #[b0, b1, b2, b3] t)).frozen? ⟨w.heap.size, 0, none⟩ = false ∧ ((w.alloc (.cells #[a0, a1, a2, a3] t)).alloc (.cells #[b0, b1, b2, b3] t)).frozen? ⟨w.heap.size, 1, none⟩ = false ∧
    ((w.alloc (.cells #[a0, a1, a2, a3] t)).alloc (.cells #[b0, b1, b2, b3] t)).frozen? ⟨w.heap.size, 2, none⟩ = false ∧ ((w.alloc (.cells #[a0, a1, a2, a3] t)).alloc (.cells #[b0, b1, b2, b3] t)).frozen? ⟨w.heap.size, 3, none⟩ = false ∧
    ((w.alloc (.cells #[a0, a1, a2, a3] t)).alloc (.cells #[b0, b1, b2, b3] t)).frozen? ⟨w.heap.size + 1, 0, none⟩ = false ∧ ((w.alloc (.cells #[a0, a1, a2, a3] t)).alloc (.cells #[b0, b1, b2, b3] t)).frozen? ⟨w.heap.size + 1, 1, none⟩ = false ∧
    ((w.alloc (.cells #[a0, a1, a2, a3] t)).alloc (.cells #[b0, b1, b2, b3] t)).frozen? ⟨w.heap.size + 1, 2, none⟩ = false ∧ ((w.alloc (.cells #[a0, a1, a2, a3] t)).alloc (.cells #[b0, b1, b2, b3] t)).frozen? ⟨w.heap.size + 1, 3, none⟩ = false := by
  have fz : ∀ i, ((w.alloc (.cells #[a0, a1, a2, a3] t)).alloc (.cells #[b0, b1, b2, b3] t)).frozen? ⟨w.heap.size, i, none⟩ = false := fun i => by
    rw [frozen?_alloc_cells, frozen?_alloc_cells]; unfold World.frozen?; simp
  have gz : ∀ i, ((w.alloc (.cells #[a0, a1, a2, a3] t)).alloc (.cells #[b0, b1, b2, b3] t)).frozen? ⟨w.heap.size + 1, i, none⟩ = false := fun i => by
    rw [frozen?_alloc_cells, frozen?_alloc_cells]; unfold World.frozen?; simp
  exact ⟨fz 0, fz 1, fz 2, fz 3, gz 0, gz 1, gz 2, gz 3⟩

end Go.Proofs.Ytcjlgfadjedgbaa
