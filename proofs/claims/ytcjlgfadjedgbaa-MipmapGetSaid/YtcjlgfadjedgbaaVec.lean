/- What the calls of package vec return: the functions over components. -/
import Derived.Test.YtcjlgfadjedgbaaVRef
import Derived.Shelf.Abstract
namespace Go.Proofs.Ytcjlgfadjedgbaa
open Go.RowKit Go.Sort

/-- A vector in a block of its own, behind it the result's. -/
theorem args1 (w : World) (a0 a1 a2 a3 : Value) (t : TypeId) :
    Below w.heap.size w ((w.alloc (.cells #[a0, a1, a2, a3] t)).alloc (.cells #[.int .i64 0, .int .i64 0, .int .i64 0, .int .i64 0] t)) ∧
    ((w.alloc (.cells #[a0, a1, a2, a3] t)).alloc (.cells #[.int .i64 0, .int .i64 0, .int .i64 0, .int .i64 0] t)).cell? ⟨w.heap.size, 0, none⟩ = some (a0) ∧
    ((w.alloc (.cells #[a0, a1, a2, a3] t)).alloc (.cells #[.int .i64 0, .int .i64 0, .int .i64 0, .int .i64 0] t)).cell? ⟨w.heap.size, 1, none⟩ = some (a1) ∧
    ((w.alloc (.cells #[a0, a1, a2, a3] t)).alloc (.cells #[.int .i64 0, .int .i64 0, .int .i64 0, .int .i64 0] t)).cell? ⟨w.heap.size, 2, none⟩ = some (a2) ∧
    ((w.alloc (.cells #[a0, a1, a2, a3] t)).alloc (.cells #[.int .i64 0, .int .i64 0, .int .i64 0, .int .i64 0] t)).cell? ⟨w.heap.size, 3, none⟩ = some (a3) ∧
    ((w.alloc (.cells #[a0, a1, a2, a3] t)).alloc (.cells #[.int .i64 0, .int .i64 0, .int .i64 0, .int .i64 0] t)).cell? ⟨w.heap.size + 1, 0, none⟩ = some (.int .i64 0) ∧
    ((w.alloc (.cells #[a0, a1, a2, a3] t)).alloc (.cells #[.int .i64 0, .int .i64 0, .int .i64 0, .int .i64 0] t)).cell? ⟨w.heap.size + 1, 1, none⟩ = some (.int .i64 0) ∧
    ((w.alloc (.cells #[a0, a1, a2, a3] t)).alloc (.cells #[.int .i64 0, .int .i64 0, .int .i64 0, .int .i64 0] t)).cell? ⟨w.heap.size + 1, 2, none⟩ = some (.int .i64 0) ∧
    ((w.alloc (.cells #[a0, a1, a2, a3] t)).alloc (.cells #[.int .i64 0, .int .i64 0, .int .i64 0, .int .i64 0] t)).cell? ⟨w.heap.size + 1, 3, none⟩ = some (.int .i64 0) ∧
    ((w.alloc (.cells #[a0, a1, a2, a3] t)).alloc (.cells #[.int .i64 0, .int .i64 0, .int .i64 0, .int .i64 0] t)).frozen? ⟨w.heap.size + 1, 0, none⟩ = false ∧
    ((w.alloc (.cells #[a0, a1, a2, a3] t)).alloc (.cells #[.int .i64 0, .int .i64 0, .int .i64 0, .int .i64 0] t)).frozen? ⟨w.heap.size + 1, 1, none⟩ = false ∧
    ((w.alloc (.cells #[a0, a1, a2, a3] t)).alloc (.cells #[.int .i64 0, .int .i64 0, .int .i64 0, .int .i64 0] t)).frozen? ⟨w.heap.size + 1, 2, none⟩ = false ∧
    ((w.alloc (.cells #[a0, a1, a2, a3] t)).alloc (.cells #[.int .i64 0, .int .i64 0, .int .i64 0, .int .i64 0] t)).frozen? ⟨w.heap.size + 1, 3, none⟩ = false := by
  obtain ⟨p0, p1, p2, p3, BB⟩ := box4 w a0 a1 a2 a3 t
  have z1 : (w.alloc (.cells #[a0, a1, a2, a3] t)).heap.size = w.heap.size + 1 := by simp
  obtain ⟨B, q0, q1, q2, q3, BB⟩ := box4_on BB (.int .i64 0) (.int .i64 0) (.int .i64 0) (.int .i64 0) t
  rw [z1] at q0 q1 q2 q3
  have fz : ∀ i, (((w.alloc (.cells #[a0, a1, a2, a3] t)).alloc (.cells #[.int .i64 0, .int .i64 0, .int .i64 0, .int .i64 0] t))).frozen? ⟨w.heap.size + 1, i, none⟩ = false := fun i => by
    rw [frozen?_alloc_cells, frozen?_alloc_cells]; unfold World.frozen?; simp
  exact ⟨BB, cell_below B p0, cell_below B p1, cell_below B p2, cell_below B p3, q0, q1, q2, q3, fz 0, fz 1, fz 2, fz 3⟩

/-- What is asked of a function value that takes one number, or two: in every world in which all that lay lies, it returns f's value and changes nothing that lay. -/
def Op1 (g : Nat) (lb : Array Value) (f : Int → Int) (w : World) : Prop :=
  ∀ (W : World) (x : Int), Below w.heap.size w W → Calls Try.prog g (#[.int .i64 x] ++ lb) W fun e w' => e = .returned (.int .i64 (f x)) ∧ Below W.heap.size W w'
def Op2 (g : Nat) (lb : Array Value) (f : Int → Int → Int) (w : World) : Prop :=
  ∀ (W : World) (x y : Int), Below w.heap.size w W → Calls Try.prog g (#[.int .i64 x, .int .i64 y] ++ lb) W fun e w' => e = .returned (.int .i64 (f x y)) ∧ Below W.heap.size W w'

end Go.Proofs.Ytcjlgfadjedgbaa
