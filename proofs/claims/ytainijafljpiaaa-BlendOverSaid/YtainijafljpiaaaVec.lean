/- What the calls of package vec return: the functions over components. -/
import Derived.Test.YtainijafljpiaaaVRef
import Derived.Shelf.Abstract
namespace Go.Proofs.Ytainijafljpiaaa
set_option linter.unusedSimpArgs false
open Go.RowKit Go.Sort

/-- A vector in a block of its own, behind it the result's. -/
theorem args1 (w : World) (a0 a1 a2 a3 : Value) (t : TypeId) :
    Below w.heap.size w ((w.alloc (.cells #[a0, a1, a2, a3] t)).alloc (.cells #[.int .i64 0, .int .i64 0, .int .i64 0, .int .i64 0] t)) ∧
    ((w.alloc (.cells #[a0, a1, a2, a3] t)).alloc (.cells #[.int .i64 0, .int .i64 0, .int .i64 0, .int .i64 0] t)).cell? ⟨w.heap.size, 0, none⟩ = some (a0) ∧
    ((w.alloc (.cells #[a0, a1, a2, a3] t)).alloc (.cells #[.int .i64 0, .int .i64 0, .int .i64 0, .int .i64 0] t)).cell? ⟨w.heap.size, 1, none⟩ = some (a1) ∧
    ((w.alloc (.cells #[a0, a1, a2, a3] t)).alloc (.cells #[.int .i64 0, .int .i64 0, .int .i64 0, .int .i64 0] t)).cell? ⟨w.heap.size, 2, none⟩ = some (a2) ∧
    ((w.alloc (.cells #[a0, a1, a2, a3] t)).alloc (.cells #[.int .i64 0, .int .i64 0, .int .i64 0, .int .i64 0] t)).cell? ⟨w.heap.size, 3, none⟩ = some (a3) ∧
    ((w.alloc (.cells #[a0, a1, a2, a3] t)).alloc (.cells #[.int .i64 0, .int .i64 0, .int .i64 0, .int .i64 0] t)).cell? ⟨w.heap.size + 1, 0, none⟩ = some (.int .i64 0) ∧
    ((w.alloc (.cells #[a0, a1, a2, a3] t)).alloc (.cells #[.int .i64 0, .int .i64 0, .int .i64 0, .int .i64 0] t)).cell? ⟨w.heap.size + 1, 1, none⟩ = some (.int .i64 0) ∧
    ((w.alloc (.cells #[a0, a1, a2, a3] t)).alloc (.cells #[.int .i64 0, .int .i64 0, .int .i64 0, .int .i64 0] t)).cell? ⟨w.heap.size + 1, 2, none⟩ = some (.int .i64 0) ∧
    ((w.alloc (.cells #[a0, a1, a2, a3] t)).alloc (.cells #[.int .i64 0, .int .i64 0, .int .i64 0, .int .i64 0] t)).cell? ⟨w.heap.size + 1, 3, none⟩ = some (.int .i64 0) ∧
    ((w.alloc (.cells #[a0, a1, a2, a3] t)).alloc (.cells #[.int .i64 0, .int .i64 0, .int .i64 0, .int .i64 0] t)).frozen? ⟨w.heap.size + 1, 0, none⟩ = false ∧
    ((w.alloc (.cells #[a0, a1, a2, a3] t)).alloc (.cells #[.int .i64 0, .int .i64 0, .int .i64 0, .int .i64 0] t)).frozen? ⟨w.heap.size + 1, 1, none⟩ = false ∧
    ((w.alloc (.cells #[a0, a1, a2, a3] t)).alloc (.cells #[.int .i64 0, .int .i64 0, .int .i64 0, .int .i64 0] t)).frozen? ⟨w.heap.size + 1, 2, none⟩ = false ∧
    ((w.alloc (.cells #[a0, a1, a2, a3] t)).alloc (.cells #[.int .i64 0, .int .i64 0, .int .i64 0, .int .i64 0] t)).frozen? ⟨w.heap.size + 1, 3, none⟩ = false := by
  obtain ⟨p0, p1, p2, p3, BB⟩ := box4 w a0 a1 a2 a3 t
  have z1 : (w.alloc (.cells #[a0, a1, a2, a3] t)).heap.size = w.heap.size + 1 := by simp
  obtain ⟨B, q0, q1, q2, q3, BB⟩ := box4_on BB (.int .i64 0) (.int .i64 0) (.int .i64 0) (.int .i64 0) t
  rw [z1] at q0 q1 q2 q3
  have fz : ∀ i, (((w.alloc (.cells #[a0, a1, a2, a3] t)).alloc (.cells #[.int .i64 0, .int .i64 0, .int .i64 0, .int .i64 0] t))).frozen? ⟨w.heap.size + 1, i, none⟩ = false := fun i => by
    rw [frozen?_alloc_cells, frozen?_alloc_cells]; unfold World.frozen?; simp
  exact ⟨BB, cell_below B p0, cell_below B p1, cell_below B p2, cell_below B p3, q0, q1, q2, q3, fz 0, fz 1, fz 2, fz 3⟩

/-- What is asked of a function value that takes one number, or two: in every world in which all that lay lies, it returns f's value and changes nothing that lay. -/
def Op1 (g : Nat) (lb : Array Value) (f : Int → Int) (w : World) : Prop :=
  ∀ (W : World) (x : Int), Below w.heap.size w W → Calls Try.prog g (#[.int .i64 x] ++ lb) W fun e w' => e = .returned (.int .i64 (f x)) ∧ Below W.heap.size W w'
def Op2 (g : Nat) (lb : Array Value) (f : Int → Int → Int) (w : World) : Prop :=
  ∀ (W : World) (x y : Int), Below w.heap.size w W → Calls Try.prog g (#[.int .i64 x, .int .i64 y] ++ lb) W fun e w' => e = .returned (.int .i64 (f x y)) ∧ Below W.heap.size W w'

theorem eachtwo_b (g : Nat) (lb : Array Value) (f : Int → Int → Int) (x0 x1 x2 x3 y0 y1 y2 y3 : Int) (w : World) (eg : Enters Try.prog g) (hp : Op2 g lb f w) :
    Calls Try.prog 61 #[.agg #[.int .i64 x0, .int .i64 x1, .int .i64 x2, .int .i64 x3], .agg #[.int .i64 y0, .int .i64 y1, .int .i64 y2, .int .i64 y3], .func (.func g) #[] lb] w fun e w' =>
      e = .returned (.agg #[.int .i64 (f x0 y0), .int .i64 (f x1 y1), .int .i64 (f x2 y2), .int .i64 (f x3 y3)]) ∧ Below w.heap.size w w' := by
  obtain ⟨BB, a0, a1, a2, a3, b0, b1, b2, b3, d0, d1, d2, d3, f0, f1, f2, f3⟩ := args2 w (.int .i64 x0) (.int .i64 x1) (.int .i64 x2) (.int .i64 x3) (.int .i64 y0) (.int .i64 y1) (.int .i64 y2) (.int .i64 y3) 27
  unfold Enters at eg
  go_enter Try.func61, Try.ntmps61
  go_wp2
  have k_a0 := cell_regrown a0
  have k_a1 := cell_regrown a1
  have k_a2 := cell_regrown a2
  have k_a3 := cell_regrown a3
  have k_b0 := cell_regrown b0
  have k_b1 := cell_regrown b1
  have k_b2 := cell_regrown b2
  have k_b3 := cell_regrown b3
  have k_d0 := cell_regrown d0
  have k_d1 := cell_regrown d1
  have k_d2 := cell_regrown d2
  have k_d3 := cell_regrown d3
  refine wp_region_tail (n := 25) (by kernel_rfl) (by kernel_rfl) ?_
  simp only [List.take_succ_cons, List.take_zero, List.drop_succ_cons, List.drop_zero]
  repeat (first | go_big_quiet_step ((first | (go_at_fn g; exact Calls.regrown_of (hp _ _ _ (bon BB (below_regrown _ _ _)))))) | quiet_step ((first | (go_at_fn g; exact Calls.regrown_of (hp _ _ _ (bon BB (below_regrown _ _ _)))))))
  refine wpQuiet_nil ?_
  intro W hw'
  have B := below_regrown' hw'
  clear hw' k_a0 k_a1 k_a2 k_a3 k_b0 k_b1 k_b2 k_b3 k_d0 k_d1 k_d2 k_d3
  replace BB := bon BB B
  replace f0 := frozen_below B d0 f0
  replace f1 := frozen_below B d1 f1
  replace f2 := frozen_below B d2 f2
  replace f3 := frozen_below B d3 f3
  replace a0 := cell_below B a0
  replace a1 := cell_below B a1
  replace a2 := cell_below B a2
  replace a3 := cell_below B a3
  replace b0 := cell_below B b0
  replace b1 := cell_below B b1
  replace b2 := cell_below B b2
  replace b3 := cell_below B b3
  replace d0 := cell_below B d0
  replace d1 := cell_below B d1
  replace d2 := cell_below B d2
  replace d3 := cell_below B d3
  go_wp2
  exact bodyPost_ret (v := .agg #[.int .i64 (f x0 y0), .int .i64 (f x1 y1), .int .i64 (f x2 y2), .int .i64 (f x3 y3)]) (by simp [results, Try.results61, go_sem, *]) rfl ⟨rfl, (((BB.setCell (by simp; omega) _).setCell (by simp; omega) _).setCell (by simp; omega) _).setCell (by simp; omega) _⟩

end Go.Proofs.Ytainijafljpiaaa
