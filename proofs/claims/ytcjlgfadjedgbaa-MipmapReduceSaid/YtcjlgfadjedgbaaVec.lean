/- What the calls of the reference of package vec return. -/
import Derived.Test.YtcjlgfadjedgbaaFixedB
import Derived.Test.YtcjlgfadjedgbaaTail
import Derived.Deep.RegionHeld3
import Derived.BigQuiet
import Derived.Outline
import Derived.Shelf.Abstract
namespace Go.Proofs.Ytcjlgfadjedgbaa
open Go.RowKit Go.Sort

/-- Two vectors in blocks of their own, behind them the result's. -/
theorem args2 (w : World) (a0 a1 a2 a3 b0 b1 b2 b3 : Value) (t : TypeId) :
    Below w.heap.size w (((w.alloc (.cells #[a0, a1, a2, a3] t)).alloc (.cells #[b0, b1, b2, b3] t)).alloc (.cells #[.int .i64 0, .int .i64 0, .int .i64 0, .int .i64 0] t)) ∧
    (((w.alloc (.cells #[a0, a1, a2, a3] t)).alloc (.cells #[b0, b1, b2, b3] t)).alloc (.cells #[.int .i64 0, .int .i64 0, .int .i64 0, .int .i64 0] t)).cell? ⟨w.heap.size, 0, none⟩ = some (a0) ∧
    (((w.alloc (.cells #[a0, a1, a2, a3] t)).alloc (.cells #[b0, b1, b2, b3] t)).alloc (.cells #[.int .i64 0, .int .i64 0, .int .i64 0, .int .i64 0] t)).cell? ⟨w.heap.size, 1, none⟩ = some (a1) ∧
    (((w.alloc (.cells #[a0, a1, a2, a3] t)).alloc (.cells #[b0, b1, b2, b3] t)).alloc (.cells #[.int .i64 0, .int .i64 0, .int .i64 0, .int .i64 0] t)).cell? ⟨w.heap.size, 2, none⟩ = some (a2) ∧
    (((w.alloc (.cells #[a0, a1, a2, a3] t)).alloc (.cells #[b0, b1, b2, b3] t)).alloc (.cells #[.int .i64 0, .int .i64 0, .int .i64 0, .int .i64 0] t)).cell? ⟨w.heap.size, 3, none⟩ = some (a3) ∧
    (((w.alloc (.cells #[a0, a1, a2, a3] t)).alloc (.cells #[b0, b1, b2, b3] t)).alloc (.cells #[.int .i64 0, .int .i64 0, .int .i64 0, .int .i64 0] t)).cell? ⟨w.heap.size + 1, 0, none⟩ = some (b0) ∧
    (((w.alloc (.cells #[a0, a1, a2, a3] t)).alloc (.cells #[b0, b1, b2, b3] t)).alloc (.cells #[.int .i64 0, .int .i64 0, .int .i64 0, .int .i64 0] t)).cell? ⟨w.heap.size + 1, 1, none⟩ = some (b1) ∧
    (((w.alloc (.cells #[a0, a1, a2, a3] t)).alloc (.cells #[b0, b1, b2, b3] t)).alloc (.cells #[.int .i64 0, .int .i64 0, .int .i64 0, .int .i64 0] t)).cell? ⟨w.heap.size + 1, 2, none⟩ = some (b2) ∧
    (((w.alloc (.cells #[a0, a1, a2, a3] t)).alloc (.cells #[b0, b1, b2, b3] t)).alloc (.cells #[.int .i64 0, .int .i64 0, .int .i64 0, .int .i64 0] t)).cell? ⟨w.heap.size + 1, 3, none⟩ = some (b3) ∧
    (((w.alloc (.cells #[a0, a1, a2, a3] t)).alloc (.cells #[b0, b1, b2, b3] t)).alloc (.cells #[.int .i64 0, .int .i64 0, .int .i64 0, .int .i64 0] t)).cell? ⟨w.heap.size + 2, 0, none⟩ = some (.int .i64 0) ∧
    (((w.alloc (.cells #[a0, a1, a2, a3] t)).alloc (.cells #[b0, b1, b2, b3] t)).alloc (.cells #[.int .i64 0, .int .i64 0, .int .i64 0, .int .i64 0] t)).cell? ⟨w.heap.size + 2, 1, none⟩ = some (.int .i64 0) ∧
    (((w.alloc (.cells #[a0, a1, a2, a3] t)).alloc (.cells #[b0, b1, b2, b3] t)).alloc (.cells #[.int .i64 0, .int .i64 0, .int .i64 0, .int .i64 0] t)).cell? ⟨w.heap.size + 2, 2, none⟩ = some (.int .i64 0) ∧
    (((w.alloc (.cells #[a0, a1, a2, a3] t)).alloc (.cells #[b0, b1, b2, b3] t)).alloc (.cells #[.int .i64 0, .int .i64 0, .int .i64 0, .int .i64 0] t)).cell? ⟨w.heap.size + 2, 3, none⟩ = some (.int .i64 0) ∧
    (((w.alloc (.cells #[a0, a1, a2, a3] t)).alloc (.cells #[b0, b1, b2, b3] t)).alloc (.cells #[.int .i64 0, .int .i64 0, .int .i64 0, .int .i64 0] t)).frozen? ⟨w.heap.size + 2, 0, none⟩ = false ∧
    (((w.alloc (.cells #[a0, a1, a2, a3] t)).alloc (.cells #[b0, b1, b2, b3] t)).alloc (.cells #[.int .i64 0, .int .i64 0, .int .i64 0, .int .i64 0] t)).frozen? ⟨w.heap.size + 2, 1, none⟩ = false ∧
    (((w.alloc (.cells #[a0, a1, a2, a3] t)).alloc (.cells #[b0, b1, b2, b3] t)).alloc (.cells #[.int .i64 0, .int .i64 0, .int .i64 0, .int .i64 0] t)).frozen? ⟨w.heap.size + 2, 2, none⟩ = false ∧
    (((w.alloc (.cells #[a0, a1, a2, a3] t)).alloc (.cells #[b0, b1, b2, b3] t)).alloc (.cells #[.int .i64 0, .int .i64 0, .int .i64 0, .int .i64 0] t)).frozen? ⟨w.heap.size + 2, 3, none⟩ = false := by
  obtain ⟨p0, p1, p2, p3, BB⟩ := box4 w a0 a1 a2 a3 t
  have z1 : (w.alloc (.cells #[a0, a1, a2, a3] t)).heap.size = w.heap.size + 1 := by simp
  obtain ⟨B, q0, q1, q2, q3, BB⟩ := box4_on BB b0 b1 b2 b3 t
  have z2 : ((w.alloc (.cells #[a0, a1, a2, a3] t)).alloc (.cells #[b0, b1, b2, b3] t)).heap.size = w.heap.size + 2 := by simp
  rw [z1] at q0 q1 q2 q3
  replace p0 := cell_below B p0; replace p1 := cell_below B p1; replace p2 := cell_below B p2; replace p3 := cell_below B p3
  obtain ⟨B, r0, r1, r2, r3, BB⟩ := box4_on BB (.int .i64 0) (.int .i64 0) (.int .i64 0) (.int .i64 0) t
  rw [z2] at r0 r1 r2 r3
  have fz : ∀ i, ((((w.alloc (.cells #[a0, a1, a2, a3] t)).alloc (.cells #[b0, b1, b2, b3] t)).alloc (.cells #[.int .i64 0, .int .i64 0, .int .i64 0, .int .i64 0] t))).frozen? ⟨w.heap.size + 2, i, none⟩ = false := fun i => by
    rw [frozen?_alloc_cells, frozen?_alloc_cells, frozen?_alloc_cells]; unfold World.frozen?; simp
  exact ⟨BB, cell_below B p0, cell_below B p1, cell_below B p2, cell_below B p3, cell_below B q0, cell_below B q1, cell_below B q2, cell_below B q3, r0, r1, r2, r3, fz 0, fz 1, fz 2, fz 3⟩

def imin (x y : Int) : Int := if y < x then y else x

end Go.Proofs.Ytcjlgfadjedgbaa

/- What the calls of package vec return: the functions over components. -/
namespace Go.Proofs.Ytcjlgfadjedgbaa
open Go.RowKit Go.Sort

/-- A vector in a block of its own, behind it the result's. -/
theorem args1 (w : World) (a0 a1 a2 a3 : Value) (t : TypeId) :
    Below w.heap.size w ((w.alloc (.cells #[a0, a1, a2, a3] t)).alloc (.cells #[.int .i64 0, .int .i64 0, .int .i64 0, .int .i64 0] t)) ∧
    ((w.alloc (.cells #[a0, a1, a2, a3] t)).alloc (.cells #[.int .i64 0, .int .i64 0, .int .i64 0, .int .i64 0] t)).cell? ⟨w.heap.size, 0, none⟩ = some (a0) ∧
    ((w.alloc (.cells #[a0, a1, a2, a3] t)).alloc (.cells #[.int .i64 0, .int .i64 0, .int .i64 0, .int .i64 0] t)).cell? ⟨w.heap.size, 1, none⟩ = some (a1) ∧
    ((w.alloc (.cells #[a0, a1, a2, a3] t)).alloc (.cells #[.int .i64 0, .int .i64 0, .int .i64 0, .int .i64 0] t)).cell? ⟨w.heap.size, 2, none⟩ = some (a2) ∧
    ((w.alloc (.cells #[a0, a1, a2, a3] t)).alloc (.cells #[.int .i64 0, .int .i64 0, .int .i64 0, .int .i64 0] t)).cell? ⟨w.heap.size, 3, none⟩ = some (a3) ∧
    ((w.alloc (.cells #[a0, a1, a2, a3] t)).alloc (.cells #[.int .i64 0, .int .i64 0, .int .i64 0, .int .i64 0] t)).cell? ⟨w.heap.size + 1, 0, none⟩ = some (.int .i64 0) ∧
    ((w.alloc (.cells #[a0, a1, a2, a3] t)).alloc (.cells #[.int .i64 0, .int .i64 0, .int .i64 0, .int .i64 0] t)).cell? ⟨w.heap.size + 1, 1, none⟩ = some (.int .i64 0) ∧
    ((w.alloc (.cells #[a0, a1, a2, a3] t)).alloc (.cells #[.int .i64 0, .int .i64 0, .int .i64 0, .int .i64 0] t)).cell? ⟨w.heap.size + 1, 2, none⟩ = some (.int .i64 0) ∧
    ((w.alloc (.cells #[a0, a1, a2, a3] t)).alloc (.cells #[.int .i64 0, .int .i64 0, .int .i64 0, .int .i64 0] t)).cell? ⟨w.heap.size + 1, 3, none⟩ = some (.int .i64 0) ∧
    ((w.alloc (.cells #[a0, a1, a2, a3] t)).alloc (.cells #[.int .i64 0, .int .i64 0, .int .i64 0, .int .i64 0] t)).frozen? ⟨w.heap.size + 1, 0, none⟩ = false ∧
    ((w.alloc (.cells #[a0, a1, a2, a3] t)).alloc (.cells #[.int .i64 0, .int .i64 0, .int .i64 0, .int .i64 0] t)).frozen? ⟨w.heap.size + 1, 1, none⟩ = false ∧
    ((w.alloc (.cells #[a0, a1, a2, a3] t)).alloc (.cells #[.int .i64 0, .int .i64 0, .int .i64 0, .int .i64 0] t)).frozen? ⟨w.heap.size + 1, 2, none⟩ = false ∧
    ((w.alloc (.cells #[a0, a1, a2, a3] t)).alloc (.cells #[.int .i64 0, .int .i64 0, .int .i64 0, .int .i64 0] t)).frozen? ⟨w.heap.size + 1, 3, none⟩ = false := by
  obtain ⟨p0, p1, p2, p3, BB⟩ := box4 w a0 a1 a2 a3 t
  have z1 : (w.alloc (.cells #[a0, a1, a2, a3] t)).heap.size = w.heap.size + 1 := by simp
  obtain ⟨B, q0, q1, q2, q3, BB⟩ := box4_on BB (.int .i64 0) (.int .i64 0) (.int .i64 0) (.int .i64 0) t
  rw [z1] at q0 q1 q2 q3
  have fz : ∀ i, (((w.alloc (.cells #[a0, a1, a2, a3] t)).alloc (.cells #[.int .i64 0, .int .i64 0, .int .i64 0, .int .i64 0] t))).frozen? ⟨w.heap.size + 1, i, none⟩ = false := fun i => by
    rw [frozen?_alloc_cells, frozen?_alloc_cells]; unfold World.frozen?; simp
  exact ⟨BB, cell_below B p0, cell_below B p1, cell_below B p2, cell_below B p3, q0, q1, q2, q3, fz 0, fz 1, fz 2, fz 3⟩

/-- What is asked of a function value that takes one number, or two: in every world in which all that lay lies, it returns f's value and changes nothing that lay. -/
def Op1 (g : Nat) (lb : Array Value) (f : Int → Int) (w : World) : Prop :=
  ∀ (W : World) (x : Int), Below w.heap.size w W → Calls Try.prog g (#[.int .i64 x] ++ lb) W fun e w' => e = .returned (.int .i64 (f x)) ∧ Below W.heap.size W w'
def Op2 (g : Nat) (lb : Array Value) (f : Int → Int → Int) (w : World) : Prop :=
  ∀ (W : World) (x y : Int), Below w.heap.size w W → Calls Try.prog g (#[.int .i64 x, .int .i64 y] ++ lb) W fun e w' => e = .returned (.int .i64 (f x y)) ∧ Below W.heap.size W w'

end Go.Proofs.Ytcjlgfadjedgbaa

/- What the calls of package vec return: the functions over one or two vectors. -/
namespace Go.Proofs.Ytcjlgfadjedgbaa
open Go.RowKit Go.Sort

/-- A vector, a number and a result, or two vectors, in blocks of their own. -/
theorem args1k (w : World) (a0 a1 a2 a3 k0 : Value) (t u : TypeId) :
    Below w.heap.size w (((w.alloc (.cells #[a0, a1, a2, a3] t)).alloc (.cells #[k0] u)).alloc (.cells #[.int .i64 0, .int .i64 0, .int .i64 0, .int .i64 0] t)) ∧
    (((w.alloc (.cells #[a0, a1, a2, a3] t)).alloc (.cells #[k0] u)).alloc (.cells #[.int .i64 0, .int .i64 0, .int .i64 0, .int .i64 0] t)).cell? ⟨w.heap.size, 0, none⟩ = some (a0) ∧
    (((w.alloc (.cells #[a0, a1, a2, a3] t)).alloc (.cells #[k0] u)).alloc (.cells #[.int .i64 0, .int .i64 0, .int .i64 0, .int .i64 0] t)).cell? ⟨w.heap.size, 1, none⟩ = some (a1) ∧
    (((w.alloc (.cells #[a0, a1, a2, a3] t)).alloc (.cells #[k0] u)).alloc (.cells #[.int .i64 0, .int .i64 0, .int .i64 0, .int .i64 0] t)).cell? ⟨w.heap.size, 2, none⟩ = some (a2) ∧
    (((w.alloc (.cells #[a0, a1, a2, a3] t)).alloc (.cells #[k0] u)).alloc (.cells #[.int .i64 0, .int .i64 0, .int .i64 0, .int .i64 0] t)).cell? ⟨w.heap.size, 3, none⟩ = some (a3) ∧
    (((w.alloc (.cells #[a0, a1, a2, a3] t)).alloc (.cells #[k0] u)).alloc (.cells #[.int .i64 0, .int .i64 0, .int .i64 0, .int .i64 0] t)).cell? ⟨w.heap.size + 1, 0, none⟩ = some (k0) ∧
    (((w.alloc (.cells #[a0, a1, a2, a3] t)).alloc (.cells #[k0] u)).alloc (.cells #[.int .i64 0, .int .i64 0, .int .i64 0, .int .i64 0] t)).cell? ⟨w.heap.size + 2, 0, none⟩ = some (.int .i64 0) ∧
    (((w.alloc (.cells #[a0, a1, a2, a3] t)).alloc (.cells #[k0] u)).alloc (.cells #[.int .i64 0, .int .i64 0, .int .i64 0, .int .i64 0] t)).cell? ⟨w.heap.size + 2, 1, none⟩ = some (.int .i64 0) ∧
    (((w.alloc (.cells #[a0, a1, a2, a3] t)).alloc (.cells #[k0] u)).alloc (.cells #[.int .i64 0, .int .i64 0, .int .i64 0, .int .i64 0] t)).cell? ⟨w.heap.size + 2, 2, none⟩ = some (.int .i64 0) ∧
    (((w.alloc (.cells #[a0, a1, a2, a3] t)).alloc (.cells #[k0] u)).alloc (.cells #[.int .i64 0, .int .i64 0, .int .i64 0, .int .i64 0] t)).cell? ⟨w.heap.size + 2, 3, none⟩ = some (.int .i64 0) ∧
    (((w.alloc (.cells #[a0, a1, a2, a3] t)).alloc (.cells #[k0] u)).alloc (.cells #[.int .i64 0, .int .i64 0, .int .i64 0, .int .i64 0] t)).frozen? ⟨w.heap.size + 2, 0, none⟩ = false ∧
    (((w.alloc (.cells #[a0, a1, a2, a3] t)).alloc (.cells #[k0] u)).alloc (.cells #[.int .i64 0, .int .i64 0, .int .i64 0, .int .i64 0] t)).frozen? ⟨w.heap.size + 2, 1, none⟩ = false ∧
    (((w.alloc (.cells #[a0, a1, a2, a3] t)).alloc (.cells #[k0] u)).alloc (.cells #[.int .i64 0, .int .i64 0, .int .i64 0, .int .i64 0] t)).frozen? ⟨w.heap.size + 2, 2, none⟩ = false ∧
    (((w.alloc (.cells #[a0, a1, a2, a3] t)).alloc (.cells #[k0] u)).alloc (.cells #[.int .i64 0, .int .i64 0, .int .i64 0, .int .i64 0] t)).frozen? ⟨w.heap.size + 2, 3, none⟩ = false := by
  have BB : Below w.heap.size w w := Below.refl _ _
  have z0 : w.heap.size = w.heap.size := by simp
  obtain ⟨B, BB⟩ := box_on BB #[a0, a1, a2, a3] t
  have p0_0 := box_cell w #[a0, a1, a2, a3] t 0 _ rfl
  have p0_1 := box_cell w #[a0, a1, a2, a3] t 1 _ rfl
  have p0_2 := box_cell w #[a0, a1, a2, a3] t 2 _ rfl
  have p0_3 := box_cell w #[a0, a1, a2, a3] t 3 _ rfl
  rw [z0] at p0_0 p0_1 p0_2 p0_3
  have z1 : (w.alloc (.cells #[a0, a1, a2, a3] t)).heap.size = w.heap.size + 1 := by simp
  obtain ⟨B, BB⟩ := box_on BB #[k0] u
  replace p0_0 := cell_below B p0_0
  replace p0_1 := cell_below B p0_1
  replace p0_2 := cell_below B p0_2
  replace p0_3 := cell_below B p0_3
  have p1_0 := box_cell (w.alloc (.cells #[a0, a1, a2, a3] t)) #[k0] u 0 _ rfl
  rw [z1] at p1_0
  have z2 : ((w.alloc (.cells #[a0, a1, a2, a3] t)).alloc (.cells #[k0] u)).heap.size = w.heap.size + 2 := by simp
  obtain ⟨B, BB⟩ := box_on BB #[.int .i64 0, .int .i64 0, .int .i64 0, .int .i64 0] t
  replace p0_0 := cell_below B p0_0
  replace p0_1 := cell_below B p0_1
  replace p0_2 := cell_below B p0_2
  replace p0_3 := cell_below B p0_3
  replace p1_0 := cell_below B p1_0
  have p2_0 := box_cell ((w.alloc (.cells #[a0, a1, a2, a3] t)).alloc (.cells #[k0] u)) #[.int .i64 0, .int .i64 0, .int .i64 0, .int .i64 0] t 0 _ rfl
  have p2_1 := box_cell ((w.alloc (.cells #[a0, a1, a2, a3] t)).alloc (.cells #[k0] u)) #[.int .i64 0, .int .i64 0, .int .i64 0, .int .i64 0] t 1 _ rfl
  have p2_2 := box_cell ((w.alloc (.cells #[a0, a1, a2, a3] t)).alloc (.cells #[k0] u)) #[.int .i64 0, .int .i64 0, .int .i64 0, .int .i64 0] t 2 _ rfl
  have p2_3 := box_cell ((w.alloc (.cells #[a0, a1, a2, a3] t)).alloc (.cells #[k0] u)) #[.int .i64 0, .int .i64 0, .int .i64 0, .int .i64 0] t 3 _ rfl
  rw [z2] at p2_0 p2_1 p2_2 p2_3
  have f2_0 : (((w.alloc (.cells #[a0, a1, a2, a3] t)).alloc (.cells #[k0] u)).alloc (.cells #[.int .i64 0, .int .i64 0, .int .i64 0, .int .i64 0] t)).frozen? ⟨w.heap.size + 2, 0, none⟩ = false := by rw [frozen?_alloc_cells, frozen?_alloc_cells, frozen?_alloc_cells]; unfold World.frozen?; simp
  have f2_1 : (((w.alloc (.cells #[a0, a1, a2, a3] t)).alloc (.cells #[k0] u)).alloc (.cells #[.int .i64 0, .int .i64 0, .int .i64 0, .int .i64 0] t)).frozen? ⟨w.heap.size + 2, 1, none⟩ = false := by rw [frozen?_alloc_cells, frozen?_alloc_cells, frozen?_alloc_cells]; unfold World.frozen?; simp
  have f2_2 : (((w.alloc (.cells #[a0, a1, a2, a3] t)).alloc (.cells #[k0] u)).alloc (.cells #[.int .i64 0, .int .i64 0, .int .i64 0, .int .i64 0] t)).frozen? ⟨w.heap.size + 2, 2, none⟩ = false := by rw [frozen?_alloc_cells, frozen?_alloc_cells, frozen?_alloc_cells]; unfold World.frozen?; simp
  have f2_3 : (((w.alloc (.cells #[a0, a1, a2, a3] t)).alloc (.cells #[k0] u)).alloc (.cells #[.int .i64 0, .int .i64 0, .int .i64 0, .int .i64 0] t)).frozen? ⟨w.heap.size + 2, 3, none⟩ = false := by rw [frozen?_alloc_cells, frozen?_alloc_cells, frozen?_alloc_cells]; unfold World.frozen?; simp
  exact ⟨BB, p0_0, p0_1, p0_2, p0_3, p1_0, p2_0, p2_1, p2_2, p2_3, f2_0, f2_1, f2_2, f2_3⟩

theorem args2k (w : World) (a0 a1 a2 a3 b0 b1 b2 b3 k0 : Value) (t u : TypeId) :
    Below w.heap.size w ((((w.alloc (.cells #[a0, a1, a2, a3] t)).alloc (.cells #[b0, b1, b2, b3] t)).alloc (.cells #[k0] u)).alloc (.cells #[.int .i64 0, .int .i64 0, .int .i64 0, .int .i64 0] t)) ∧
    ((((w.alloc (.cells #[a0, a1, a2, a3] t)).alloc (.cells #[b0, b1, b2, b3] t)).alloc (.cells #[k0] u)).alloc (.cells #[.int .i64 0, .int .i64 0, .int .i64 0, .int .i64 0] t)).cell? ⟨w.heap.size, 0, none⟩ = some (a0) ∧
    ((((w.alloc (.cells #[a0, a1, a2, a3] t)).alloc (.cells #[b0, b1, b2, b3] t)).alloc (.cells #[k0] u)).alloc (.cells #[.int .i64 0, .int .i64 0, .int .i64 0, .int .i64 0] t)).cell? ⟨w.heap.size, 1, none⟩ = some (a1) ∧
    ((((w.alloc (.cells #[a0, a1, a2, a3] t)).alloc (.cells #[b0, b1, b2, b3] t)).alloc (.cells #[k0] u)).alloc (.cells #[.int .i64 0, .int .i64 0, .int .i64 0, .int .i64 0] t)).cell? ⟨w.heap.size, 2, none⟩ = some (a2) ∧
    ((((w.alloc (.cells #[a0, a1, a2, a3] t)).alloc (.cells #[b0, b1, b2, b3] t)).alloc (.cells #[k0] u)).alloc (.cells #[.int .i64 0, .int .i64 0, .int .i64 0, .int .i64 0] t)).cell? ⟨w.heap.size, 3, none⟩ = some (a3) ∧
    ((((w.alloc (.cells #[a0, a1, a2, a3] t)).alloc (.cells #[b0, b1, b2, b3] t)).alloc (.cells #[k0] u)).alloc (.cells #[.int .i64 0, .int .i64 0, .int .i64 0, .int .i64 0] t)).cell? ⟨w.heap.size + 1, 0, none⟩ = some (b0) ∧
    ((((w.alloc (.cells #[a0, a1, a2, a3] t)).alloc (.cells #[b0, b1, b2, b3] t)).alloc (.cells #[k0] u)).alloc (.cells #[.int .i64 0, .int .i64 0, .int .i64 0, .int .i64 0] t)).cell? ⟨w.heap.size + 1, 1, none⟩ = some (b1) ∧
    ((((w.alloc (.cells #[a0, a1, a2, a3] t)).alloc (.cells #[b0, b1, b2, b3] t)).alloc (.cells #[k0] u)).alloc (.cells #[.int .i64 0, .int .i64 0, .int .i64 0, .int .i64 0] t)).cell? ⟨w.heap.size + 1, 2, none⟩ = some (b2) ∧
    ((((w.alloc (.cells #[a0, a1, a2, a3] t)).alloc (.cells #[b0, b1, b2, b3] t)).alloc (.cells #[k0] u)).alloc (.cells #[.int .i64 0, .int .i64 0, .int .i64 0, .int .i64 0] t)).cell? ⟨w.heap.size + 1, 3, none⟩ = some (b3) ∧
    ((((w.alloc (.cells #[a0, a1, a2, a3] t)).alloc (.cells #[b0, b1, b2, b3] t)).alloc (.cells #[k0] u)).alloc (.cells #[.int .i64 0, .int .i64 0, .int .i64 0, .int .i64 0] t)).cell? ⟨w.heap.size + 2, 0, none⟩ = some (k0) ∧
    ((((w.alloc (.cells #[a0, a1, a2, a3] t)).alloc (.cells #[b0, b1, b2, b3] t)).alloc (.cells #[k0] u)).alloc (.cells #[.int .i64 0, .int .i64 0, .int .i64 0, .int .i64 0] t)).cell? ⟨w.heap.size + 3, 0, none⟩ = some (.int .i64 0) ∧
    ((((w.alloc (.cells #[a0, a1, a2, a3] t)).alloc (.cells #[b0, b1, b2, b3] t)).alloc (.cells #[k0] u)).alloc (.cells #[.int .i64 0, .int .i64 0, .int .i64 0, .int .i64 0] t)).cell? ⟨w.heap.size + 3, 1, none⟩ = some (.int .i64 0) ∧
    ((((w.alloc (.cells #[a0, a1, a2, a3] t)).alloc (.cells #[b0, b1, b2, b3] t)).alloc (.cells #[k0] u)).alloc (.cells #[.int .i64 0, .int .i64 0, .int .i64 0, .int .i64 0] t)).cell? ⟨w.heap.size + 3, 2, none⟩ = some (.int .i64 0) ∧
    ((((w.alloc (.cells #[a0, a1, a2, a3] t)).alloc (.cells #[b0, b1, b2, b3] t)).alloc (.cells #[k0] u)).alloc (.cells #[.int .i64 0, .int .i64 0, .int .i64 0, .int .i64 0] t)).cell? ⟨w.heap.size + 3, 3, none⟩ = some (.int .i64 0) ∧
    ((((w.alloc (.cells #[a0, a1, a2, a3] t)).alloc (.cells #[b0, b1, b2, b3] t)).alloc (.cells #[k0] u)).alloc (.cells #[.int .i64 0, .int .i64 0, .int .i64 0, .int .i64 0] t)).frozen? ⟨w.heap.size + 3, 0, none⟩ = false ∧
    ((((w.alloc (.cells #[a0, a1, a2, a3] t)).alloc (.cells #[b0, b1, b2, b3] t)).alloc (.cells #[k0] u)).alloc (.cells #[.int .i64 0, .int .i64 0, .int .i64 0, .int .i64 0] t)).frozen? ⟨w.heap.size + 3, 1, none⟩ = false ∧
    ((((w.alloc (.cells #[a0, a1, a2, a3] t)).alloc (.cells #[b0, b1, b2, b3] t)).alloc (.cells #[k0] u)).alloc (.cells #[.int .i64 0, .int .i64 0, .int .i64 0, .int .i64 0] t)).frozen? ⟨w.heap.size + 3, 2, none⟩ = false ∧
    ((((w.alloc (.cells #[a0, a1, a2, a3] t)).alloc (.cells #[b0, b1, b2, b3] t)).alloc (.cells #[k0] u)).alloc (.cells #[.int .i64 0, .int .i64 0, .int .i64 0, .int .i64 0] t)).frozen? ⟨w.heap.size + 3, 3, none⟩ = false := by
  have BB : Below w.heap.size w w := Below.refl _ _
  have z0 : w.heap.size = w.heap.size := by simp
  obtain ⟨B, BB⟩ := box_on BB #[a0, a1, a2, a3] t
  have p0_0 := box_cell w #[a0, a1, a2, a3] t 0 _ rfl
  have p0_1 := box_cell w #[a0, a1, a2, a3] t 1 _ rfl
  have p0_2 := box_cell w #[a0, a1, a2, a3] t 2 _ rfl
  have p0_3 := box_cell w #[a0, a1, a2, a3] t 3 _ rfl
  rw [z0] at p0_0 p0_1 p0_2 p0_3
  have z1 : (w.alloc (.cells #[a0, a1, a2, a3] t)).heap.size = w.heap.size + 1 := by simp
  obtain ⟨B, BB⟩ := box_on BB #[b0, b1, b2, b3] t
  replace p0_0 := cell_below B p0_0
  replace p0_1 := cell_below B p0_1
  replace p0_2 := cell_below B p0_2
  replace p0_3 := cell_below B p0_3
  have p1_0 := box_cell (w.alloc (.cells #[a0, a1, a2, a3] t)) #[b0, b1, b2, b3] t 0 _ rfl
  have p1_1 := box_cell (w.alloc (.cells #[a0, a1, a2, a3] t)) #[b0, b1, b2, b3] t 1 _ rfl
  have p1_2 := box_cell (w.alloc (.cells #[a0, a1, a2, a3] t)) #[b0, b1, b2, b3] t 2 _ rfl
  have p1_3 := box_cell (w.alloc (.cells #[a0, a1, a2, a3] t)) #[b0, b1, b2, b3] t 3 _ rfl
  rw [z1] at p1_0 p1_1 p1_2 p1_3
  have z2 : ((w.alloc (.cells #[a0, a1, a2, a3] t)).alloc (.cells #[b0, b1, b2, b3] t)).heap.size = w.heap.size + 2 := by simp
  obtain ⟨B, BB⟩ := box_on BB #[k0] u
  replace p0_0 := cell_below B p0_0
  replace p0_1 := cell_below B p0_1
  replace p0_2 := cell_below B p0_2
  replace p0_3 := cell_below B p0_3
  replace p1_0 := cell_below B p1_0
  replace p1_1 := cell_below B p1_1
  replace p1_2 := cell_below B p1_2
  replace p1_3 := cell_below B p1_3
  have p2_0 := box_cell ((w.alloc (.cells #[a0, a1, a2, a3] t)).alloc (.cells #[b0, b1, b2, b3] t)) #[k0] u 0 _ rfl
  rw [z2] at p2_0
  have z3 : (((w.alloc (.cells #[a0, a1, a2, a3] t)).alloc (.cells #[b0, b1, b2, b3] t)).alloc (.cells #[k0] u)).heap.size = w.heap.size + 3 := by simp
  obtain ⟨B, BB⟩ := box_on BB #[.int .i64 0, .int .i64 0, .int .i64 0, .int .i64 0] t
  replace p0_0 := cell_below B p0_0
  replace p0_1 := cell_below B p0_1
  replace p0_2 := cell_below B p0_2
  replace p0_3 := cell_below B p0_3
  replace p1_0 := cell_below B p1_0
  replace p1_1 := cell_below B p1_1
  replace p1_2 := cell_below B p1_2
  replace p1_3 := cell_below B p1_3
  replace p2_0 := cell_below B p2_0
  have p3_0 := box_cell (((w.alloc (.cells #[a0, a1, a2, a3] t)).alloc (.cells #[b0, b1, b2, b3] t)).alloc (.cells #[k0] u)) #[.int .i64 0, .int .i64 0, .int .i64 0, .int .i64 0] t 0 _ rfl
  have p3_1 := box_cell (((w.alloc (.cells #[a0, a1, a2, a3] t)).alloc (.cells #[b0, b1, b2, b3] t)).alloc (.cells #[k0] u)) #[.int .i64 0, .int .i64 0, .int .i64 0, .int .i64 0] t 1 _ rfl
  have p3_2 := box_cell (((w.alloc (.cells #[a0, a1, a2, a3] t)).alloc (.cells #[b0, b1, b2, b3] t)).alloc (.cells #[k0] u)) #[.int .i64 0, .int .i64 0, .int .i64 0, .int .i64 0] t 2 _ rfl
  have p3_3 := box_cell (((w.alloc (.cells #[a0, a1, a2, a3] t)).alloc (.cells #[b0, b1, b2, b3] t)).alloc (.cells #[k0] u)) #[.int .i64 0, .int .i64 0, .int .i64 0, .int .i64 0] t 3 _ rfl
  rw [z3] at p3_0 p3_1 p3_2 p3_3
  have f3_0 : ((((w.alloc (.cells #[a0, a1, a2, a3] t)).alloc (.cells #[b0, b1, b2, b3] t)).alloc (.cells #[k0] u)).alloc (.cells #[.int .i64 0, .int .i64 0, .int .i64 0, .int .i64 0] t)).frozen? ⟨w.heap.size + 3, 0, none⟩ = false := by rw [frozen?_alloc_cells, frozen?_alloc_cells, frozen?_alloc_cells, frozen?_alloc_cells]; unfold World.frozen?; simp
  have f3_1 : ((((w.alloc (.cells #[a0, a1, a2, a3] t)).alloc (.cells #[b0, b1, b2, b3] t)).alloc (.cells #[k0] u)).alloc (.cells #[.int .i64 0, .int .i64 0, .int .i64 0, .int .i64 0] t)).frozen? ⟨w.heap.size + 3, 1, none⟩ = false := by rw [frozen?_alloc_cells, frozen?_alloc_cells, frozen?_alloc_cells, frozen?_alloc_cells]; unfold World.frozen?; simp
  have f3_2 : ((((w.alloc (.cells #[a0, a1, a2, a3] t)).alloc (.cells #[b0, b1, b2, b3] t)).alloc (.cells #[k0] u)).alloc (.cells #[.int .i64 0, .int .i64 0, .int .i64 0, .int .i64 0] t)).frozen? ⟨w.heap.size + 3, 2, none⟩ = false := by rw [frozen?_alloc_cells, frozen?_alloc_cells, frozen?_alloc_cells, frozen?_alloc_cells]; unfold World.frozen?; simp
  have f3_3 : ((((w.alloc (.cells #[a0, a1, a2, a3] t)).alloc (.cells #[b0, b1, b2, b3] t)).alloc (.cells #[k0] u)).alloc (.cells #[.int .i64 0, .int .i64 0, .int .i64 0, .int .i64 0] t)).frozen? ⟨w.heap.size + 3, 3, none⟩ = false := by rw [frozen?_alloc_cells, frozen?_alloc_cells, frozen?_alloc_cells, frozen?_alloc_cells]; unfold World.frozen?; simp
  exact ⟨BB, p0_0, p0_1, p0_2, p0_3, p1_0, p1_1, p1_2, p1_3, p2_0, p3_0, p3_1, p3_2, p3_3, f3_0, f3_1, f3_2, f3_3⟩

def imax (x y : Int) : Int := if x < y then y else x

end Go.Proofs.Ytcjlgfadjedgbaa

/- What the calls of package vec return: lists, components, and the dot product. -/
namespace Go.Proofs.Ytcjlgfadjedgbaa
open Go.RowKit Go.Sort

/-- Four cells and a result of another type, each in a block of its own; two results. -/
theorem argsar (w : World) (a0 a1 a2 a3 : Value) (t u : TypeId) :
    Below w.heap.size w ((w.alloc (.cells #[a0, a1, a2, a3] t)).alloc (.cells #[.int .i64 0, .int .i64 0, .int .i64 0, .int .i64 0] u)) ∧
    ((w.alloc (.cells #[a0, a1, a2, a3] t)).alloc (.cells #[.int .i64 0, .int .i64 0, .int .i64 0, .int .i64 0] u)).cell? ⟨w.heap.size, 0, none⟩ = some (a0) ∧
    ((w.alloc (.cells #[a0, a1, a2, a3] t)).alloc (.cells #[.int .i64 0, .int .i64 0, .int .i64 0, .int .i64 0] u)).cell? ⟨w.heap.size, 1, none⟩ = some (a1) ∧
    ((w.alloc (.cells #[a0, a1, a2, a3] t)).alloc (.cells #[.int .i64 0, .int .i64 0, .int .i64 0, .int .i64 0] u)).cell? ⟨w.heap.size, 2, none⟩ = some (a2) ∧
    ((w.alloc (.cells #[a0, a1, a2, a3] t)).alloc (.cells #[.int .i64 0, .int .i64 0, .int .i64 0, .int .i64 0] u)).cell? ⟨w.heap.size, 3, none⟩ = some (a3) ∧
    ((w.alloc (.cells #[a0, a1, a2, a3] t)).alloc (.cells #[.int .i64 0, .int .i64 0, .int .i64 0, .int .i64 0] u)).cell? ⟨w.heap.size + 1, 0, none⟩ = some (.int .i64 0) ∧
    ((w.alloc (.cells #[a0, a1, a2, a3] t)).alloc (.cells #[.int .i64 0, .int .i64 0, .int .i64 0, .int .i64 0] u)).cell? ⟨w.heap.size + 1, 1, none⟩ = some (.int .i64 0) ∧
    ((w.alloc (.cells #[a0, a1, a2, a3] t)).alloc (.cells #[.int .i64 0, .int .i64 0, .int .i64 0, .int .i64 0] u)).cell? ⟨w.heap.size + 1, 2, none⟩ = some (.int .i64 0) ∧
    ((w.alloc (.cells #[a0, a1, a2, a3] t)).alloc (.cells #[.int .i64 0, .int .i64 0, .int .i64 0, .int .i64 0] u)).cell? ⟨w.heap.size + 1, 3, none⟩ = some (.int .i64 0) ∧
    ((w.alloc (.cells #[a0, a1, a2, a3] t)).alloc (.cells #[.int .i64 0, .int .i64 0, .int .i64 0, .int .i64 0] u)).frozen? ⟨w.heap.size + 1, 0, none⟩ = false ∧
    ((w.alloc (.cells #[a0, a1, a2, a3] t)).alloc (.cells #[.int .i64 0, .int .i64 0, .int .i64 0, .int .i64 0] u)).frozen? ⟨w.heap.size + 1, 1, none⟩ = false ∧
    ((w.alloc (.cells #[a0, a1, a2, a3] t)).alloc (.cells #[.int .i64 0, .int .i64 0, .int .i64 0, .int .i64 0] u)).frozen? ⟨w.heap.size + 1, 2, none⟩ = false ∧
    ((w.alloc (.cells #[a0, a1, a2, a3] t)).alloc (.cells #[.int .i64 0, .int .i64 0, .int .i64 0, .int .i64 0] u)).frozen? ⟨w.heap.size + 1, 3, none⟩ = false := by
  have BB : Below w.heap.size w w := Below.refl _ _
  have z0 : w.heap.size = w.heap.size := by simp
  obtain ⟨B, BB⟩ := box_on BB #[a0, a1, a2, a3] t
  have p0_0 := box_cell w #[a0, a1, a2, a3] t 0 _ rfl
  have p0_1 := box_cell w #[a0, a1, a2, a3] t 1 _ rfl
  have p0_2 := box_cell w #[a0, a1, a2, a3] t 2 _ rfl
  have p0_3 := box_cell w #[a0, a1, a2, a3] t 3 _ rfl
  rw [z0] at p0_0 p0_1 p0_2 p0_3
  have z1 : (w.alloc (.cells #[a0, a1, a2, a3] t)).heap.size = w.heap.size + 1 := by simp
  obtain ⟨B, BB⟩ := box_on BB #[.int .i64 0, .int .i64 0, .int .i64 0, .int .i64 0] u
  replace p0_0 := cell_below B p0_0
  replace p0_1 := cell_below B p0_1
  replace p0_2 := cell_below B p0_2
  replace p0_3 := cell_below B p0_3
  have p1_0 := box_cell (w.alloc (.cells #[a0, a1, a2, a3] t)) #[.int .i64 0, .int .i64 0, .int .i64 0, .int .i64 0] u 0 _ rfl
  have p1_1 := box_cell (w.alloc (.cells #[a0, a1, a2, a3] t)) #[.int .i64 0, .int .i64 0, .int .i64 0, .int .i64 0] u 1 _ rfl
  have p1_2 := box_cell (w.alloc (.cells #[a0, a1, a2, a3] t)) #[.int .i64 0, .int .i64 0, .int .i64 0, .int .i64 0] u 2 _ rfl
  have p1_3 := box_cell (w.alloc (.cells #[a0, a1, a2, a3] t)) #[.int .i64 0, .int .i64 0, .int .i64 0, .int .i64 0] u 3 _ rfl
  rw [z1] at p1_0 p1_1 p1_2 p1_3
  have f1_0 : ((w.alloc (.cells #[a0, a1, a2, a3] t)).alloc (.cells #[.int .i64 0, .int .i64 0, .int .i64 0, .int .i64 0] u)).frozen? ⟨w.heap.size + 1, 0, none⟩ = false := by rw [frozen?_alloc_cells, frozen?_alloc_cells]; unfold World.frozen?; simp
  have f1_1 : ((w.alloc (.cells #[a0, a1, a2, a3] t)).alloc (.cells #[.int .i64 0, .int .i64 0, .int .i64 0, .int .i64 0] u)).frozen? ⟨w.heap.size + 1, 1, none⟩ = false := by rw [frozen?_alloc_cells, frozen?_alloc_cells]; unfold World.frozen?; simp
  have f1_2 : ((w.alloc (.cells #[a0, a1, a2, a3] t)).alloc (.cells #[.int .i64 0, .int .i64 0, .int .i64 0, .int .i64 0] u)).frozen? ⟨w.heap.size + 1, 2, none⟩ = false := by rw [frozen?_alloc_cells, frozen?_alloc_cells]; unfold World.frozen?; simp
  have f1_3 : ((w.alloc (.cells #[a0, a1, a2, a3] t)).alloc (.cells #[.int .i64 0, .int .i64 0, .int .i64 0, .int .i64 0] u)).frozen? ⟨w.heap.size + 1, 3, none⟩ = false := by rw [frozen?_alloc_cells, frozen?_alloc_cells]; unfold World.frozen?; simp
  exact ⟨BB, p0_0, p0_1, p0_2, p0_3, p1_0, p1_1, p1_2, p1_3, f1_0, f1_1, f1_2, f1_3⟩

theorem argsoo (w : World) (t u : TypeId) :
    Below w.heap.size w ((w.alloc (.cells #[.int .i64 0, .int .i64 0, .int .i64 0, .int .i64 0] t)).alloc (.cells #[.int .i64 0, .int .i64 0, .int .i64 0, .int .i64 0] u)) ∧
    ((w.alloc (.cells #[.int .i64 0, .int .i64 0, .int .i64 0, .int .i64 0] t)).alloc (.cells #[.int .i64 0, .int .i64 0, .int .i64 0, .int .i64 0] u)).cell? ⟨w.heap.size, 0, none⟩ = some (.int .i64 0) ∧
    ((w.alloc (.cells #[.int .i64 0, .int .i64 0, .int .i64 0, .int .i64 0] t)).alloc (.cells #[.int .i64 0, .int .i64 0, .int .i64 0, .int .i64 0] u)).cell? ⟨w.heap.size, 1, none⟩ = some (.int .i64 0) ∧
    ((w.alloc (.cells #[.int .i64 0, .int .i64 0, .int .i64 0, .int .i64 0] t)).alloc (.cells #[.int .i64 0, .int .i64 0, .int .i64 0, .int .i64 0] u)).cell? ⟨w.heap.size, 2, none⟩ = some (.int .i64 0) ∧
    ((w.alloc (.cells #[.int .i64 0, .int .i64 0, .int .i64 0, .int .i64 0] t)).alloc (.cells #[.int .i64 0, .int .i64 0, .int .i64 0, .int .i64 0] u)).cell? ⟨w.heap.size, 3, none⟩ = some (.int .i64 0) ∧
    ((w.alloc (.cells #[.int .i64 0, .int .i64 0, .int .i64 0, .int .i64 0] t)).alloc (.cells #[.int .i64 0, .int .i64 0, .int .i64 0, .int .i64 0] u)).cell? ⟨w.heap.size + 1, 0, none⟩ = some (.int .i64 0) ∧
    ((w.alloc (.cells #[.int .i64 0, .int .i64 0, .int .i64 0, .int .i64 0] t)).alloc (.cells #[.int .i64 0, .int .i64 0, .int .i64 0, .int .i64 0] u)).cell? ⟨w.heap.size + 1, 1, none⟩ = some (.int .i64 0) ∧
    ((w.alloc (.cells #[.int .i64 0, .int .i64 0, .int .i64 0, .int .i64 0] t)).alloc (.cells #[.int .i64 0, .int .i64 0, .int .i64 0, .int .i64 0] u)).cell? ⟨w.heap.size + 1, 2, none⟩ = some (.int .i64 0) ∧
    ((w.alloc (.cells #[.int .i64 0, .int .i64 0, .int .i64 0, .int .i64 0] t)).alloc (.cells #[.int .i64 0, .int .i64 0, .int .i64 0, .int .i64 0] u)).cell? ⟨w.heap.size + 1, 3, none⟩ = some (.int .i64 0) ∧
    ((w.alloc (.cells #[.int .i64 0, .int .i64 0, .int .i64 0, .int .i64 0] t)).alloc (.cells #[.int .i64 0, .int .i64 0, .int .i64 0, .int .i64 0] u)).frozen? ⟨w.heap.size, 0, none⟩ = false ∧
    ((w.alloc (.cells #[.int .i64 0, .int .i64 0, .int .i64 0, .int .i64 0] t)).alloc (.cells #[.int .i64 0, .int .i64 0, .int .i64 0, .int .i64 0] u)).frozen? ⟨w.heap.size, 1, none⟩ = false ∧
    ((w.alloc (.cells #[.int .i64 0, .int .i64 0, .int .i64 0, .int .i64 0] t)).alloc (.cells #[.int .i64 0, .int .i64 0, .int .i64 0, .int .i64 0] u)).frozen? ⟨w.heap.size, 2, none⟩ = false ∧
    ((w.alloc (.cells #[.int .i64 0, .int .i64 0, .int .i64 0, .int .i64 0] t)).alloc (.cells #[.int .i64 0, .int .i64 0, .int .i64 0, .int .i64 0] u)).frozen? ⟨w.heap.size, 3, none⟩ = false ∧
    ((w.alloc (.cells #[.int .i64 0, .int .i64 0, .int .i64 0, .int .i64 0] t)).alloc (.cells #[.int .i64 0, .int .i64 0, .int .i64 0, .int .i64 0] u)).frozen? ⟨w.heap.size + 1, 0, none⟩ = false ∧
    ((w.alloc (.cells #[.int .i64 0, .int .i64 0, .int .i64 0, .int .i64 0] t)).alloc (.cells #[.int .i64 0, .int .i64 0, .int .i64 0, .int .i64 0] u)).frozen? ⟨w.heap.size + 1, 1, none⟩ = false ∧
    ((w.alloc (.cells #[.int .i64 0, .int .i64 0, .int .i64 0, .int .i64 0] t)).alloc (.cells #[.int .i64 0, .int .i64 0, .int .i64 0, .int .i64 0] u)).frozen? ⟨w.heap.size + 1, 2, none⟩ = false ∧
    ((w.alloc (.cells #[.int .i64 0, .int .i64 0, .int .i64 0, .int .i64 0] t)).alloc (.cells #[.int .i64 0, .int .i64 0, .int .i64 0, .int .i64 0] u)).frozen? ⟨w.heap.size + 1, 3, none⟩ = false := by
  have BB : Below w.heap.size w w := Below.refl _ _
  have z0 : w.heap.size = w.heap.size := by simp
  obtain ⟨B, BB⟩ := box_on BB #[.int .i64 0, .int .i64 0, .int .i64 0, .int .i64 0] t
  have p0_0 := box_cell w #[.int .i64 0, .int .i64 0, .int .i64 0, .int .i64 0] t 0 _ rfl
  have p0_1 := box_cell w #[.int .i64 0, .int .i64 0, .int .i64 0, .int .i64 0] t 1 _ rfl
  have p0_2 := box_cell w #[.int .i64 0, .int .i64 0, .int .i64 0, .int .i64 0] t 2 _ rfl
  have p0_3 := box_cell w #[.int .i64 0, .int .i64 0, .int .i64 0, .int .i64 0] t 3 _ rfl
  rw [z0] at p0_0 p0_1 p0_2 p0_3
  have f0_0 : (w.alloc (.cells #[.int .i64 0, .int .i64 0, .int .i64 0, .int .i64 0] t)).frozen? ⟨w.heap.size, 0, none⟩ = false := by rw [frozen?_alloc_cells]; unfold World.frozen?; simp
  have f0_1 : (w.alloc (.cells #[.int .i64 0, .int .i64 0, .int .i64 0, .int .i64 0] t)).frozen? ⟨w.heap.size, 1, none⟩ = false := by rw [frozen?_alloc_cells]; unfold World.frozen?; simp
  have f0_2 : (w.alloc (.cells #[.int .i64 0, .int .i64 0, .int .i64 0, .int .i64 0] t)).frozen? ⟨w.heap.size, 2, none⟩ = false := by rw [frozen?_alloc_cells]; unfold World.frozen?; simp
  have f0_3 : (w.alloc (.cells #[.int .i64 0, .int .i64 0, .int .i64 0, .int .i64 0] t)).frozen? ⟨w.heap.size, 3, none⟩ = false := by rw [frozen?_alloc_cells]; unfold World.frozen?; simp
  have z1 : (w.alloc (.cells #[.int .i64 0, .int .i64 0, .int .i64 0, .int .i64 0] t)).heap.size = w.heap.size + 1 := by simp
  obtain ⟨B, BB⟩ := box_on BB #[.int .i64 0, .int .i64 0, .int .i64 0, .int .i64 0] u
  replace f0_0 := frozen_below B p0_0 f0_0
  replace f0_1 := frozen_below B p0_1 f0_1
  replace f0_2 := frozen_below B p0_2 f0_2
  replace f0_3 := frozen_below B p0_3 f0_3
  replace p0_0 := cell_below B p0_0
  replace p0_1 := cell_below B p0_1
  replace p0_2 := cell_below B p0_2
  replace p0_3 := cell_below B p0_3
  have p1_0 := box_cell (w.alloc (.cells #[.int .i64 0, .int .i64 0, .int .i64 0, .int .i64 0] t)) #[.int .i64 0, .int .i64 0, .int .i64 0, .int .i64 0] u 0 _ rfl
  have p1_1 := box_cell (w.alloc (.cells #[.int .i64 0, .int .i64 0, .int .i64 0, .int .i64 0] t)) #[.int .i64 0, .int .i64 0, .int .i64 0, .int .i64 0] u 1 _ rfl
  have p1_2 := box_cell (w.alloc (.cells #[.int .i64 0, .int .i64 0, .int .i64 0, .int .i64 0] t)) #[.int .i64 0, .int .i64 0, .int .i64 0, .int .i64 0] u 2 _ rfl
  have p1_3 := box_cell (w.alloc (.cells #[.int .i64 0, .int .i64 0, .int .i64 0, .int .i64 0] t)) #[.int .i64 0, .int .i64 0, .int .i64 0, .int .i64 0] u 3 _ rfl
  rw [z1] at p1_0 p1_1 p1_2 p1_3
  have f1_0 : ((w.alloc (.cells #[.int .i64 0, .int .i64 0, .int .i64 0, .int .i64 0] t)).alloc (.cells #[.int .i64 0, .int .i64 0, .int .i64 0, .int .i64 0] u)).frozen? ⟨w.heap.size + 1, 0, none⟩ = false := by rw [frozen?_alloc_cells, frozen?_alloc_cells]; unfold World.frozen?; simp
  have f1_1 : ((w.alloc (.cells #[.int .i64 0, .int .i64 0, .int .i64 0, .int .i64 0] t)).alloc (.cells #[.int .i64 0, .int .i64 0, .int .i64 0, .int .i64 0] u)).frozen? ⟨w.heap.size + 1, 1, none⟩ = false := by rw [frozen?_alloc_cells, frozen?_alloc_cells]; unfold World.frozen?; simp
  have f1_2 : ((w.alloc (.cells #[.int .i64 0, .int .i64 0, .int .i64 0, .int .i64 0] t)).alloc (.cells #[.int .i64 0, .int .i64 0, .int .i64 0, .int .i64 0] u)).frozen? ⟨w.heap.size + 1, 2, none⟩ = false := by rw [frozen?_alloc_cells, frozen?_alloc_cells]; unfold World.frozen?; simp
  have f1_3 : ((w.alloc (.cells #[.int .i64 0, .int .i64 0, .int .i64 0, .int .i64 0] t)).alloc (.cells #[.int .i64 0, .int .i64 0, .int .i64 0, .int .i64 0] u)).frozen? ⟨w.heap.size + 1, 3, none⟩ = false := by rw [frozen?_alloc_cells, frozen?_alloc_cells]; unfold World.frozen?; simp
  exact ⟨BB, p0_0, p0_1, p0_2, p0_3, p1_0, p1_1, p1_2, p1_3, f0_0, f0_1, f0_2, f0_3, f1_0, f1_1, f1_2, f1_3⟩

/-- Component i; the vector's component k with component i replaced. -/
def compv (x0 x1 x2 x3 i : Int) : Int := if i = 0 then x0 else if i = 1 then x1 else if i = 2 then x2 else if i = 3 then x3 else 0
def withv (i x k y : Int) : Int := if i = k then x else y

theorem five (i : Int) : (i < 0 ∨ 3 < i) ∨ i = 0 ∨ i = 1 ∨ i = 2 ∨ i = 3 := by omega

theorem idx0 (x0 x1 x2 x3 : Int) (w : World) : (Instr.index 72 (.agg #[.int .i64 x0, .int .i64 x1, .int .i64 x2, .int .i64 x3]) (.int .i64 0)).run Try.prog w = .ok (.int .i64 x0) w := by
  simp [Instr.index, run_underlying Try.underlying72, asIntOf, part, go_sem]

theorem idx1 (x0 x1 x2 x3 : Int) (w : World) : (Instr.index 72 (.agg #[.int .i64 x0, .int .i64 x1, .int .i64 x2, .int .i64 x3]) (.int .i64 1)).run Try.prog w = .ok (.int .i64 x1) w := by
  simp [Instr.index, run_underlying Try.underlying72, asIntOf, part, go_sem]

theorem idx2 (x0 x1 x2 x3 : Int) (w : World) : (Instr.index 72 (.agg #[.int .i64 x0, .int .i64 x1, .int .i64 x2, .int .i64 x3]) (.int .i64 2)).run Try.prog w = .ok (.int .i64 x2) w := by
  simp [Instr.index, run_underlying Try.underlying72, asIntOf, part, go_sem]

theorem idx3 (x0 x1 x2 x3 : Int) (w : World) : (Instr.index 72 (.agg #[.int .i64 x0, .int .i64 x1, .int .i64 x2, .int .i64 x3]) (.int .i64 3)).run Try.prog w = .ok (.int .i64 x3) w := by
  simp [Instr.index, run_underlying Try.underlying72, asIntOf, part, go_sem]

/-- A list of four numbers in new memory. -/
def LIs (x0 x1 x2 x3 : Int) (w : World) (e : Ending) (w' : World) : Prop :=
  ∃ b, e = .returned (.slice (some ⟨b, 0, none⟩) 4 4) ∧ w'.cell? ⟨b, 0, none⟩ = some (.int .i64 x0) ∧ w'.cell? ⟨b, 1, none⟩ = some (.int .i64 x1) ∧ w'.cell? ⟨b, 2, none⟩ = some (.int .i64 x2) ∧ w'.cell? ⟨b, 3, none⟩ = some (.int .i64 x3) ∧ Below w.heap.size w w'

/-- The dot product. -/
def dotv (x0 x1 x2 x3 y0 y1 y2 y3 : Int) : Int := sat (rda (sat x0 * sat y0 + sat x1 * sat y1 + sat x2 * sat y2 + sat x3 * sat y3) 65536)

theorem argsff (w : World) (a0 a1 a2 a3 b0 b1 b2 b3 : Value) (t : TypeId) :
    Below w.heap.size w ((w.alloc (.cells #[a0, a1, a2, a3] t)).alloc (.cells #[b0, b1, b2, b3] t)) ∧
    ((w.alloc (.cells #[a0, a1, a2, a3] t)).alloc (.cells #[b0, b1, b2, b3] t)).cell? ⟨w.heap.size, 0, none⟩ = some (a0) ∧
    ((w.alloc (.cells #[a0, a1, a2, a3] t)).alloc (.cells #[b0, b1, b2, b3] t)).cell? ⟨w.heap.size, 1, none⟩ = some (a1) ∧
    ((w.alloc (.cells #[a0, a1, a2, a3] t)).alloc (.cells #[b0, b1, b2, b3] t)).cell? ⟨w.heap.size, 2, none⟩ = some (a2) ∧
    ((w.alloc (.cells #[a0, a1, a2, a3] t)).alloc (.cells #[b0, b1, b2, b3] t)).cell? ⟨w.heap.size, 3, none⟩ = some (a3) ∧
    ((w.alloc (.cells #[a0, a1, a2, a3] t)).alloc (.cells #[b0, b1, b2, b3] t)).cell? ⟨w.heap.size + 1, 0, none⟩ = some (b0) ∧
    ((w.alloc (.cells #[a0, a1, a2, a3] t)).alloc (.cells #[b0, b1, b2, b3] t)).cell? ⟨w.heap.size + 1, 1, none⟩ = some (b1) ∧
    ((w.alloc (.cells #[a0, a1, a2, a3] t)).alloc (.cells #[b0, b1, b2, b3] t)).cell? ⟨w.heap.size + 1, 2, none⟩ = some (b2) ∧
    ((w.alloc (.cells #[a0, a1, a2, a3] t)).alloc (.cells #[b0, b1, b2, b3] t)).cell? ⟨w.heap.size + 1, 3, none⟩ = some (b3) := by
  have BB : Below w.heap.size w w := Below.refl _ _
  have z0 : w.heap.size = w.heap.size := by simp
  obtain ⟨B, BB⟩ := box_on BB #[a0, a1, a2, a3] t
  have p0_0 := box_cell w #[a0, a1, a2, a3] t 0 _ rfl
  have p0_1 := box_cell w #[a0, a1, a2, a3] t 1 _ rfl
  have p0_2 := box_cell w #[a0, a1, a2, a3] t 2 _ rfl
  have p0_3 := box_cell w #[a0, a1, a2, a3] t 3 _ rfl
  rw [z0] at p0_0 p0_1 p0_2 p0_3
  have z1 : (w.alloc (.cells #[a0, a1, a2, a3] t)).heap.size = w.heap.size + 1 := by simp
  obtain ⟨B, BB⟩ := box_on BB #[b0, b1, b2, b3] t
  replace p0_0 := cell_below B p0_0
  replace p0_1 := cell_below B p0_1
  replace p0_2 := cell_below B p0_2
  replace p0_3 := cell_below B p0_3
  have p1_0 := box_cell (w.alloc (.cells #[a0, a1, a2, a3] t)) #[b0, b1, b2, b3] t 0 _ rfl
  have p1_1 := box_cell (w.alloc (.cells #[a0, a1, a2, a3] t)) #[b0, b1, b2, b3] t 1 _ rfl
  have p1_2 := box_cell (w.alloc (.cells #[a0, a1, a2, a3] t)) #[b0, b1, b2, b3] t 2 _ rfl
  have p1_3 := box_cell (w.alloc (.cells #[a0, a1, a2, a3] t)) #[b0, b1, b2, b3] t 3 _ rfl
  rw [z1] at p1_0 p1_1 p1_2 p1_3
  exact ⟨BB, p0_0, p0_1, p0_2, p0_3, p1_0, p1_1, p1_2, p1_3⟩

theorem args2f (w : World) (a0 a1 a2 a3 b0 b1 b2 b3 : Value) (t : TypeId) :
    ((w.alloc (.cells #[a0, a1, a2, a3] t)).alloc (.cells #[b0, b1, b2, b3] t)).frozen? ⟨w.heap.size, 0, none⟩ = false ∧ ((w.alloc (.cells #[a0, a1, a2, a3] t)).alloc (.cells #[b0, b1, b2, b3] t)).frozen? ⟨w.heap.size, 1, none⟩ = false ∧
    ((w.alloc (.cells #[a0, a1, a2, a3] t)).alloc (.cells #[b0, b1, b2, b3] t)).frozen? ⟨w.heap.size, 2, none⟩ = false ∧ ((w.alloc (.cells #[a0, a1, a2, a3] t)).alloc (.cells #[b0, b1, b2, b3] t)).frozen? ⟨w.heap.size, 3, none⟩ = false ∧
    ((w.alloc (.cells #[a0, a1, a2, a3] t)).alloc (.cells #[b0, b1, b2, b3] t)).frozen? ⟨w.heap.size + 1, 0, none⟩ = false ∧ ((w.alloc (.cells #[a0, a1, a2, a3] t)).alloc (.cells #[b0, b1, b2, b3] t)).frozen? ⟨w.heap.size + 1, 1, none⟩ = false ∧
    ((w.alloc (.cells #[a0, a1, a2, a3] t)).alloc (.cells #[b0, b1, b2, b3] t)).frozen? ⟨w.heap.size + 1, 2, none⟩ = false ∧ ((w.alloc (.cells #[a0, a1, a2, a3] t)).alloc (.cells #[b0, b1, b2, b3] t)).frozen? ⟨w.heap.size + 1, 3, none⟩ = false := by
  have fz : ∀ i, ((w.alloc (.cells #[a0, a1, a2, a3] t)).alloc (.cells #[b0, b1, b2, b3] t)).frozen? ⟨w.heap.size, i, none⟩ = false := fun i => by
    rw [frozen?_alloc_cells, frozen?_alloc_cells]; unfold World.frozen?; simp
  have gz : ∀ i, ((w.alloc (.cells #[a0, a1, a2, a3] t)).alloc (.cells #[b0, b1, b2, b3] t)).frozen? ⟨w.heap.size + 1, i, none⟩ = false := fun i => by
    rw [frozen?_alloc_cells, frozen?_alloc_cells]; unfold World.frozen?; simp
  exact ⟨fz 0, fz 1, fz 2, fz 3, gz 0, gz 1, gz 2, gz 3⟩

end Go.Proofs.Ytcjlgfadjedgbaa

/- What the calls of the reference of package vec return: the functions over one or two vectors. -/
namespace Go.Proofs.Ytcjlgfadjedgbaa
open Go.RowKit Go.Sort

theorem rlist_b (x0 x1 x2 x3 : Int) (w : World) : Calls Try.prog 94 #[.agg #[.int .i64 x0, .int .i64 x1, .int .i64 x2, .int .i64 x3]] w (LIs x0 x1 x2 x3 w) := by
  obtain ⟨a0, a1, a2, a3, BB⟩ := box4 w (.int .i64 x0) (.int .i64 x1) (.int .i64 x2) (.int .i64 x3) 44
  go_enter Try.func94, Try.ntmps94
  go_wp2
  go_ret
  exact ⟨_, rfl, by simp, by simp, by simp, by simp, bon BB (box_below _ _ _)⟩

theorem rcomp_b (x0 x1 x2 x3 i : Int) (w : World) :
    Calls Try.prog 67 #[.agg #[.int .i64 x0, .int .i64 x1, .int .i64 x2, .int .i64 x3], .int .i64 i] w fun e w' => e = .returned (.int .i64 (compv x0 x1 x2 x3 i)) ∧ Below w.heap.size w w' := by
  obtain ⟨a0, a1, a2, a3, BB⟩ := box4 w (.int .i64 x0) (.int .i64 x1) (.int .i64 x2) (.int .i64 x3) 44
  rcases five i with h | rfl | rfl | rfl | rfl
  · have hv : compv x0 x1 x2 x3 i = 0 := by unfold compv; rw [if_neg (by omega), if_neg (by omega), if_neg (by omega), if_neg (by omega)]
    rw [hv]
    clear hv
    rcases h with h | h
    all_goals
      go_enter Try.func67, Try.ntmps67
      go_wp2
      go_ret
      exact ⟨rfl, BB⟩
  all_goals
    go_enter Try.func67, Try.ntmps67
    go_wp2_with (go_at_call 94; refine (rlist_b _ _ _ _ _).mono ?_; rintro _ _ ⟨lb, rfl, l0, l1, l2, l3, B⟩; replace BB := bon BB B)
    go_ret
    exact ⟨ret_int (by simp [compv]), BB⟩

theorem rwith_b (x0 x1 x2 x3 i x : Int) (w : World) :
    Calls Try.prog 73 #[.agg #[.int .i64 x0, .int .i64 x1, .int .i64 x2, .int .i64 x3], .int .i64 i, .int .i64 x] w fun e w' =>
      e = .returned (.agg #[.int .i64 (withv i x 0 x0), .int .i64 (withv i x 1 x1), .int .i64 (withv i x 2 x2), .int .i64 (withv i x 3 x3)]) ∧ Below w.heap.size w w' := by
  obtain ⟨BB, a0, a1, a2, a3, d0, d1, d2, d3, f0, f1, f2, f3⟩ := args1 w (.int .i64 x0) (.int .i64 x1) (.int .i64 x2) (.int .i64 x3) 44
  rcases five i with h | rfl | rfl | rfl | rfl
  · have h0 : ¬ i = 0 := by omega
    have h1 : ¬ i = 1 := by omega
    have h2 : ¬ i = 2 := by omega
    have h3 : ¬ i = 3 := by omega
    have e0 : withv i x 0 x0 = x0 := if_neg h0
    have e1 : withv i x 1 x1 = x1 := if_neg h1
    have e2 : withv i x 2 x2 = x2 := if_neg h2
    have e3 : withv i x 3 x3 = x3 := if_neg h3
    rw [e0, e1, e2, e3]
    clear h e0 e1 e2 e3
    go_enter Try.func73, Try.ntmps73
    go_wp2
    exact bodyPost_ret (v := .agg #[.int .i64 x0, .int .i64 x1, .int .i64 x2, .int .i64 x3]) (by simp [results, Try.results73, go_sem]) rfl ⟨rfl, ((Below.refl _ _).alloc (Nat.le_refl _) _).alloc (by simp) _⟩
  · show Calls _ _ _ _ fun e w' => e = .returned (.agg #[.int .i64 x, .int .i64 x1, .int .i64 x2, .int .i64 x3]) ∧ _
    go_enter Try.func73, Try.ntmps73
    go_wp2
    exact bodyPost_ret (v := .agg #[.int .i64 x, .int .i64 x1, .int .i64 x2, .int .i64 x3]) (by simp [results, Try.results73, go_sem]) rfl ⟨rfl, ((Below.refl _ _).alloc (Nat.le_refl _) _).alloc (by simp) _⟩
  · show Calls _ _ _ _ fun e w' => e = .returned (.agg #[.int .i64 x0, .int .i64 x, .int .i64 x2, .int .i64 x3]) ∧ _
    go_enter Try.func73, Try.ntmps73
    go_wp2
    exact bodyPost_ret (v := .agg #[.int .i64 x0, .int .i64 x, .int .i64 x2, .int .i64 x3]) (by simp [results, Try.results73, go_sem]) rfl ⟨rfl, ((Below.refl _ _).alloc (Nat.le_refl _) _).alloc (by simp) _⟩
  · show Calls _ _ _ _ fun e w' => e = .returned (.agg #[.int .i64 x0, .int .i64 x1, .int .i64 x, .int .i64 x3]) ∧ _
    go_enter Try.func73, Try.ntmps73
    go_wp2
    exact bodyPost_ret (v := .agg #[.int .i64 x0, .int .i64 x1, .int .i64 x, .int .i64 x3]) (by simp [results, Try.results73, go_sem]) rfl ⟨rfl, ((Below.refl _ _).alloc (Nat.le_refl _) _).alloc (by simp) _⟩
  · show Calls _ _ _ _ fun e w' => e = .returned (.agg #[.int .i64 x0, .int .i64 x1, .int .i64 x2, .int .i64 x]) ∧ _
    go_enter Try.func73, Try.ntmps73
    go_wp2
    exact bodyPost_ret (v := .agg #[.int .i64 x0, .int .i64 x1, .int .i64 x2, .int .i64 x]) (by simp [results, Try.results73, go_sem]) rfl ⟨rfl, ((Below.refl _ _).alloc (Nat.le_refl _) _).alloc (by simp) _⟩

end Go.Proofs.Ytcjlgfadjedgbaa

/- What Dot of the reference returns. -/
namespace Go.Proofs.Ytcjlgfadjedgbaa
open Go.RowKit Go.Sort

theorem below_drew {w W : World} (h : Below w.heap.size w W) : Below w.heap.size w W.drew := ⟨h.os, h.tape, h.output, h.size, h.block⟩

/-- From here on of the world only S is known. -/
theorem letter {P : Program} {c : Code} {Q : Exit → Act → World → Prop} {a : Act} {w : World} {S : World → Prop} (h : ∀ W, S W → c.wp P Q a W) (hs : S w) : c.wp P Q a w := h w hs

end Go.Proofs.Ytcjlgfadjedgbaa
