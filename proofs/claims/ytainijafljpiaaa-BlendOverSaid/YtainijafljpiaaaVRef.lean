/- What the calls of the reference of package vec return. -/
import Derived.Test.YtainijafljpiaaaFixedB
import Derived.Test.YtainijafljpiaaaTail
import Derived.Deep.RegionHeld3
import Derived.BigQuiet
import Derived.Outline
namespace Go.Proofs.Ytainijafljpiaaa
set_option linter.unusedSimpArgs false
open Go.RowKit Go.Sort

/-- Two vectors in blocks of their own, behind them the result's. -/
theorem args2 (w : World) (a0 a1 a2 a3 b0 b1 b2 b3 : Value) (t : TypeId) :
    Below w.heap.size w (((w.alloc (.cells #[a0, a1, a2, a3] t)).alloc (.cells #[b0, b1, b2, b3] t)).alloc (.cells #[.int .i64 0, .int .i64 0, .int .i64 0, .int .i64 0] t)) ∧
    (((w.alloc (.cells #[a0, a1, a2, a3] t)).alloc (.cells #[b0, b1, b2, b3] t)).alloc (.cells #[.int .i64 0, .int .i64 0, .int .i64 0, .int .i64 0] t)).cell? ⟨w.heap.size, 0, none⟩ = some (a0) ∧
    (((w.alloc (.cells #[a0, a1, a2, a3] t)).alloc (.cells #[b0, b1, b2, b3] t)).alloc (.cells #[.int .i64 0, .int .i64 0, .int .i64 0, .int .i64 0] t)).cell? ⟨w.heap.size, 1, none⟩ = some (a1) ∧
    (((w.alloc (.cells #[a0, a1, a2, a3] t)).alloc (.cells #[b0, b1, b2, b3] t)).alloc (.cells #[.int .i64 0, .int .i64 0, .int .i64 0, .int .i64 0] t)).cell? ⟨w.heap.size, 2, none⟩ = some (a2) ∧
    (((w.alloc (.cells #[a0, a1, a2, a3] t)).alloc (.cells #[b0, b1, b2, b3] t)).alloc (.cells #[.int .i64 0, .int .i64 0, .int .i64 0, .int .i64 0] t)).cell? ⟨w.heap.size, 3, none⟩ = some (a3) ∧
    (((w.alloc (.cells #[a0, a1, a2, a3] t)).alloc (.cells #[b0, b1, b2, b3] t)).alloc (.cells #[.int .i64 0, .int .i64 0, .int .i64 0, .int .i64 0] t)).cell? ⟨w.heap.size + 1, 0, none⟩ = some (b0) ∧
    (((w.alloc (.cells #[a0, a1, a2, a3] t)).alloc (.cells #[b0, b1, b2, b3] t)).alloc (.cells #[.int .i64 0, .int .i64 0, .int .i64 0, .int .i64 0] t)).cell? ⟨w.heap.size + 1, 1, none⟩ = some (b1) ∧
    (((w.alloc (.cells #[a0, a1, a2, a3] t)).alloc (.cells #[b0, b1, b2, b3] t)).alloc (.cells #[.int .i64 0, .int .i64 0, .int .i64 0, .int .i64 0] t)).cell? ⟨w.heap.size + 1, 2, none⟩ = some (b2) ∧
    (((w.alloc (.cells #[a0, a1, a2, a3] t)).alloc (.cells #[b0, b1, b2, b3] t)).alloc (.cells #[.int .i64 0, .int .i64 0, .int .i64 0, .int .i64 0] t)).cell? ⟨w.heap.size + 1, 3, none⟩ = some (b3) ∧
    (((w.alloc (.cells #[a0, a1, a2, a3] t)).alloc (.cells #[b0, b1, b2, b3] t)).alloc (.cells #[.int .i64 0, .int .i64 0, .int .i64 0, .int .i64 0] t)).cell? ⟨w.heap.size + 2, 0, none⟩ = some (.int .i64 0) ∧
    (((w.alloc (.cells #[a0, a1, a2, a3] t)).alloc (.cells #[b0, b1, b2, b3] t)).alloc (.cells #[.int .i64 0, .int .i64 0, .int .i64 0, .int .i64 0] t)).cell? ⟨w.heap.size + 2, 1, none⟩ = some (.int .i64 0) ∧
    (((w.alloc (.cells #[a0, a1, a2, a3] t)).alloc (.cells #[b0, b1, b2, b3] t)).alloc (.cells #[.int .i64 0, .int .i64 0, .int .i64 0, .int .i64 0] t)).cell? ⟨w.heap.size + 2, 2, none⟩ = some (.int .i64 0) ∧
    (((w.alloc (.cells #[a0, a1, a2, a3] t)).alloc (.cells #[b0, b1, b2, b3] t)).alloc (.cells #[.int .i64 0, .int .i64 0, .int .i64 0, .int .i64 0] t)).cell? ⟨w.heap.size + 2, 3, none⟩ = some (.int .i64 0) ∧
    (((w.alloc (.cells #[a0, a1, a2, a3] t)).alloc (.cells #[b0, b1, b2, b3] t)).alloc (.cells #[.int .i64 0, .int .i64 0, .int .i64 0, .int .i64 0] t)).frozen? ⟨w.heap.size + 2, 0, none⟩ = false ∧
    (((w.alloc (.cells #[a0, a1, a2, a3] t)).alloc (.cells #[b0, b1, b2, b3] t)).alloc (.cells #[.int .i64 0, .int .i64 0, .int .i64 0, .int .i64 0] t)).frozen? ⟨w.heap.size + 2, 1, none⟩ = false ∧
    (((w.alloc (.cells #[a0, a1, a2, a3] t)).alloc (.cells #[b0, b1, b2, b3] t)).alloc (.cells #[.int .i64 0, .int .i64 0, .int .i64 0, .int .i64 0] t)).frozen? ⟨w.heap.size + 2, 2, none⟩ = false ∧
    (((w.alloc (.cells #[a0, a1, a2, a3] t)).alloc (.cells #[b0, b1, b2, b3] t)).alloc (.cells #[.int .i64 0, .int .i64 0, .int .i64 0, .int .i64 0] t)).frozen? ⟨w.heap.size + 2, 3, none⟩ = false := by
  obtain ⟨p0, p1, p2, p3, BB⟩ := box4 w a0 a1 a2 a3 t
  have z1 : (w.alloc (.cells #[a0, a1, a2, a3] t)).heap.size = w.heap.size + 1 := by simp
  obtain ⟨B, q0, q1, q2, q3, BB⟩ := box4_on BB b0 b1 b2 b3 t
  have z2 : ((w.alloc (.cells #[a0, a1, a2, a3] t)).alloc (.cells #[b0, b1, b2, b3] t)).heap.size = w.heap.size + 2 := by simp
  rw [z1] at q0 q1 q2 q3
  replace p0 := cell_below B p0; replace p1 := cell_below B p1; replace p2 := cell_below B p2; replace p3 := cell_below B p3
  obtain ⟨B, r0, r1, r2, r3, BB⟩ := box4_on BB (.int .i64 0) (.int .i64 0) (.int .i64 0) (.int .i64 0) t
  rw [z2] at r0 r1 r2 r3
  have fz : ∀ i, ((((w.alloc (.cells #[a0, a1, a2, a3] t)).alloc (.cells #[b0, b1, b2, b3] t)).alloc (.cells #[.int .i64 0, .int .i64 0, .int .i64 0, .int .i64 0] t))).frozen? ⟨w.heap.size + 2, i, none⟩ = false := fun i => by
    rw [frozen?_alloc_cells, frozen?_alloc_cells, frozen?_alloc_cells]; unfold World.frozen?; simp
  exact ⟨BB, cell_below B p0, cell_below B p1, cell_below B p2, cell_below B p3, cell_below B q0, cell_below B q1, cell_below B q2, cell_below B q3, r0, r1, r2, r3, fz 0, fz 1, fz 2, fz 3⟩

def imin (x y : Int) : Int := if y < x then y else x

end Go.Proofs.Ytainijafljpiaaa
