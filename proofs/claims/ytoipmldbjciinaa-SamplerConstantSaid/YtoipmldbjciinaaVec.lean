/- What the calls of the reference of package vec return. -/
import Derived.Test.YtoipmldbjciinaaFixedB
import Derived.Test.YtoipmldbjciinaaTail
import Derived.Deep.RegionHeld3
import Derived.BigQuiet
import Derived.Outline
import Derived.Shelf.Abstract
namespace Go.Proofs.Ytoipmldbjciinaa
open Go.RowKit Go.Sort

/-- Two vectors in blocks of their own, behind them the result's. -/
theorem args2 (w : World) (a0 a1 a2 a3 b0 b1 b2 b3 : Value) (t : TypeId) :
    Below w.heap.size w (((w.alloc (.cells #[a0, a1, a2, a3] t)).alloc (.cells #[b0, b1, b2, b3] t)).alloc (.cells #[.int .i64 0, .int .i64 0, .int .i64 0, .int .i64 0] t)) ∧
    (((w.alloc (.cells #[a0, a1, a2, a3] t)).alloc (.cells #[b0, b1, b2, b3] t)).alloc (.cells #[.int .i64 0, .int .i64 0, .int .i64 0, .int .i64 0] t)).cell? ⟨w.heap.size, 0, none⟩ = some (a0) ∧
    (((w.alloc (.cells #[a0, a1, a2, a3] t)).alloc (.cells #[b0, b1, b2, b3] t)).alloc (.cells #[.int .i64 0, .int .i64 0, .int .i64 0, .int .i64 0] t)).cell? ⟨w.heap.size, 1, none⟩ = some (a1) ∧
    (((w.alloc (.cells #[a0, a1, a2, a3] t)).alloc (.cells #[b0, b1, b2, b3] t)).alloc (.cells #[.int .i64 0, .int .i64 0, .int .i64 0, .int .i64 0] t)).cell? ⟨w.heap.size, 2, none⟩ = some (a2) ∧
    (((w.alloc (.cells #[a0, a1, a2, a3] t)).alloc (.cells #[b0, b1, b2, b3] t)).alloc (.cells #[.int .i64 0, .int .i64 0, .int .i64 0, .int .i64 0] t)).cell? ⟨w.heap.size, 3, none⟩ = some (a3) ∧
    (((w.alloc (.cells #[a0, a1, a2, a3] t)).alloc (.cells #[b0, b1, b2, b3] t)).alloc (.cells #[.int .i64 0, .int .i64 0, .int .i64 0, .int .i64 0] t)).cell? ⟨w.heap.size + 1, 0, none⟩ = some (b0) ∧
    (((w.alloc (.cells #[a0, a1, a2, a3] t)).alloc (.cells #[b0, b1, b2, b3] t)).alloc (.cells #[.int .i64 0, .int .i64 0, .int .i64 0, .int .i64 0] t)).cell? ⟨w.heap.size + 1, 1, none⟩ = some (b1) ∧
    (((w.alloc (.cells #[a0, a1, a2, a3] t)).alloc (.cells #[b0, b1, b2, b3] t)).alloc (.cells #[.int .i64 0, .int .i64 0, .int .i64 0, .int .i64 0] t)).cell? ⟨w.heap.size + 1, 2, none⟩ = some (b2) ∧
    (((w.alloc (.cells #[a0, a1, a2, a3] t)).alloc (.cells #[b0, b1, b2, b3] t)).alloc (.cells #[.int .i64 0, .int .i64 0, .int .i64 0, .int .i64 0] t)).cell? ⟨w.heap.size + 1, 3, none⟩ = some (b3) ∧
    (((w.alloc (.cells #[a0, a1, a2, a3] t)).alloc (.cells #[b0, b1, b2, b3] t)).alloc (.cells #[.int .i64 0, .int .i64 0, .int .i64 0, .int .i64 0] t)).cell? ⟨w.heap.size + 2, 0, none⟩ = some (.int .i64 0) ∧
    (((w.alloc (.cells #[a0, a1, a2, a3] t)).alloc (.cells #[b0, b1, b2, b3] t)).alloc (.cells #[.int .i64 0, .int .i64 0, .int .i64 0, .int .i64 0] t)).cell? ⟨w.heap.size + 2, 1, none⟩ = some (.int .i64 0) ∧
    (((w.alloc (.cells #[a0, a1, a2, a3] t)).alloc (.cells #[b0, b1, b2, b3] t)).alloc (.cells #[.int .i64 0, .int .i64 0, .int .i64 0, .int .i64 0] t)).cell? ⟨w.heap.size + 2, 2, none⟩ = some (.int .i64 0) ∧
    (((w.alloc (.cells #[a0, a1, a2, a3] t)).alloc (.cells #[b0, b1, b2, b3] t)).alloc (.cells #[.int .i64 0, .int .i64 0, .int .i64 0, .int .i64 0] t)).cell? ⟨w.heap.size + 2, 3, none⟩ = some (.int .i64 0) ∧
    (((w.alloc (.cells #[a0, a1, a2, a3] t)).alloc (.cells #[b0, b1, b2, b3] t)).alloc (.cells #[.int .i64 0, .int .i64 0, .int .i64 0, .int .i64 0] t)).frozen? ⟨w.heap.size + 2, 0, none⟩ = false ∧
    (((w.alloc (.cells #[a0, a1, a2, a3] t)).alloc (.cells #[b0, b1, b2, b3] t)).alloc (.cells #[.int .i64 0, .int .i64 0, .int .i64 0, .int .i64 0] t)).frozen? ⟨w.heap.size + 2, 1, none⟩ = false ∧
    (((w.alloc (.cells #[a0, a1, a2, a3] t)).alloc (.cells #[b0, b1, b2, b3] t)).alloc (.cells #[.int .i64 0, .int .i64 0, .int .i64 0, .int .i64 0] t)).frozen? ⟨w.heap.size + 2, 2, none⟩ = false ∧
    (((w.alloc (.cells #[a0, a1, a2, a3] t)).alloc (.cells #[b0, b1, b2, b3] t)).alloc (.cells #[.int .i64 0, .int .i64 0, .int .i64 0, .int .i64 0] t)).frozen? ⟨w.heap.size + 2, 3, none⟩ = false := by
  obtain ⟨p0, p1, p2, p3, BB⟩ := box4 w a0 a1 a2 a3 t
  have z1 : (w.alloc (.cells #[a0, a1, a2, a3] t)).heap.size = w.heap.size + 1 := by simp
  obtain ⟨B, q0, q1, q2, q3, BB⟩ := box4_on BB b0 b1 b2 b3 t
  have z2 : ((w.alloc (.cells #[a0, a1, a2, a3] t)).alloc (.cells #[b0, b1, b2, b3] t)).heap.size = w.heap.size + 2 := by simp
  rw [z1] at q0 q1 q2 q3
  replace p0 := cell_below B p0; replace p1 := cell_below B p1; replace p2 := cell_below B p2; replace p3 := cell_below B p3
  obtain ⟨B, r0, r1, r2, r3, BB⟩ := box4_on BB (.int .i64 0) (.int .i64 0) (.int .i64 0) (.int .i64 0) t
  rw [z2] at r0 r1 r2 r3
  have fz : ∀ i, ((((w.alloc (.cells #[a0, a1, a2, a3] t)).alloc (.cells #[b0, b1, b2, b3] t)).alloc (.cells #[.int .i64 0, .int .i64 0, .int .i64 0, .int .i64 0] t))).frozen? ⟨w.heap.size + 2, i, none⟩ = false := fun i => by
    rw [frozen?_alloc_cells, frozen?_alloc_cells, frozen?_alloc_cells]; unfold World.frozen?; simp
  exact ⟨BB, cell_below B p0, cell_below B p1, cell_below B p2, cell_below B p3, cell_below B q0, cell_below B q1, cell_below B q2, cell_below B q3, r0, r1, r2, r3, fz 0, fz 1, fz 2, fz 3⟩

def imin (x y : Int) : Int := if y < x then y else x

end Go.Proofs.Ytoipmldbjciinaa

/- What the calls of package vec return: the functions over components. -/
namespace Go.Proofs.Ytoipmldbjciinaa
open Go.RowKit Go.Sort

/-- A vector in a block of its own, behind it the result's. -/
theorem args1 (w : World) (a0 a1 a2 a3 : Value) (t : TypeId) :
    Below w.heap.size w ((w.alloc (.cells #[a0, a1, a2, a3] t)).alloc (.cells #[.int .i64 0, .int .i64 0, .int .i64 0, .int .i64 0] t)) ∧
    ((w.alloc (.cells #[a0, a1, a2, a3] t)).alloc (.cells #[.int .i64 0, .int .i64 0, .int .i64 0, .int .i64 0] t)).cell? ⟨w.heap.size, 0, none⟩ = some (a0) ∧
    ((w.alloc (.cells #[a0, a1, a2, a3] t)).alloc (.cells #[.int .i64 0, .int .i64 0, .int .i64 0, .int .i64 0] t)).cell? ⟨w.heap.size, 1, none⟩ = some (a1) ∧
    ((w.alloc (.cells #[a0, a1, a2, a3] t)).alloc (.cells #[.int .i64 0, .int .i64 0, .int .i64 0, .int .i64 0] t)).cell? ⟨w.heap.size, 2, none⟩ = some (a2) ∧
    ((w.alloc (.cells #[a0, a1, a2, a3] t)).alloc (.cells #[.int .i64 0, .int .i64 0, .int .i64 0, .int .i64 0] t)).cell? ⟨w.heap.size, 3, none⟩ = some (a3) ∧
    ((w.alloc (.cells #[a0, a1, a2, a3] t)).alloc (.cells #[.int .i64 0, .int .i64 0, .int .i64 0, .int .i64 0] t)).cell? ⟨w.heap.size + 1, 0, none⟩ = some (.int .i64 0) ∧
    ((w.alloc (.cells #[a0, a1, a2, a3] t)).alloc (.cells #[.int .i64 0, .int .i64 0, .int .i64 0, .int .i64 0] t)).cell? ⟨w.heap.size + 1, 1, none⟩ = some (.int .i64 0) ∧
    ((w.alloc (.cells #[a0, a1, a2, a3] t)).alloc (.cells #[.int .i64 0, .int .i64 0, .int .i64 0, .int .i64 0] t)).cell? ⟨w.heap.size + 1, 2, none⟩ = some (.int .i64 0) ∧
    ((w.alloc (.cells #[a0, a1, a2, a3] t)).alloc (.cells #[.int .i64 0, .int .i64 0, .int .i64 0, .int .i64 0] t)).cell? ⟨w.heap.size + 1, 3, none⟩ = some (.int .i64 0) ∧
    ((w.alloc (.cells #[a0, a1, a2, a3] t)).alloc (.cells #[.int .i64 0, .int .i64 0, .int .i64 0, .int .i64 0] t)).frozen? ⟨w.heap.size + 1, 0, none⟩ = false ∧
    ((w.alloc (.cells #[a0, a1, a2, a3] t)).alloc (.cells #[.int .i64 0, .int .i64 0, .int .i64 0, .int .i64 0] t)).frozen? ⟨w.heap.size + 1, 1, none⟩ = false ∧
    ((w.alloc (.cells #[a0, a1, a2, a3] t)).alloc (.cells #[.int .i64 0, .int .i64 0, .int .i64 0, .int .i64 0] t)).frozen? ⟨w.heap.size + 1, 2, none⟩ = false ∧
    ((w.alloc (.cells #[a0, a1, a2, a3] t)).alloc (.cells #[.int .i64 0, .int .i64 0, .int .i64 0, .int .i64 0] t)).frozen? ⟨w.heap.size + 1, 3, none⟩ = false := by
  obtain ⟨p0, p1, p2, p3, BB⟩ := box4 w a0 a1 a2 a3 t
  have z1 : (w.alloc (.cells #[a0, a1, a2, a3] t)).heap.size = w.heap.size + 1 := by simp
  obtain ⟨B, q0, q1, q2, q3, BB⟩ := box4_on BB (.int .i64 0) (.int .i64 0) (.int .i64 0) (.int .i64 0) t
  rw [z1] at q0 q1 q2 q3
  have fz : ∀ i, (((w.alloc (.cells #[a0, a1, a2, a3] t)).alloc (.cells #[.int .i64 0, .int .i64 0, .int .i64 0, .int .i64 0] t))).frozen? ⟨w.heap.size + 1, i, none⟩ = false := fun i => by
    rw [frozen?_alloc_cells, frozen?_alloc_cells]; unfold World.frozen?; simp
  exact ⟨BB, cell_below B p0, cell_below B p1, cell_below B p2, cell_below B p3, q0, q1, q2, q3, fz 0, fz 1, fz 2, fz 3⟩

/-- What is asked of a function value that takes one number, or two: in every world in which all that lay lies, it returns f's value and changes nothing that lay. -/
def Op1 (g : Nat) (lb : Array Value) (f : Int → Int) (w : World) : Prop :=
  ∀ (W : World) (x : Int), Below w.heap.size w W → Calls Try.prog g (#[.int .i64 x] ++ lb) W fun e w' => e = .returned (.int .i64 (f x)) ∧ Below W.heap.size W w'
def Op2 (g : Nat) (lb : Array Value) (f : Int → Int → Int) (w : World) : Prop :=
  ∀ (W : World) (x y : Int), Below w.heap.size w W → Calls Try.prog g (#[.int .i64 x, .int .i64 y] ++ lb) W fun e w' => e = .returned (.int .i64 (f x y)) ∧ Below W.heap.size W w'

theorem eachtwo_b (g : Nat) (lb : Array Value) (f : Int → Int → Int) (x0 x1 x2 x3 y0 y1 y2 y3 : Int) (w : World) (eg : Enters Try.prog g) (hp : Op2 g lb f w) :
    Calls Try.prog 48 #[.agg #[.int .i64 x0, .int .i64 x1, .int .i64 x2, .int .i64 x3], .agg #[.int .i64 y0, .int .i64 y1, .int .i64 y2, .int .i64 y3], .func (.func g) #[] lb] w fun e w' =>
      e = .returned (.agg #[.int .i64 (f x0 y0), .int .i64 (f x1 y1), .int .i64 (f x2 y2), .int .i64 (f x3 y3)]) ∧ Below w.heap.size w w' := by
  obtain ⟨BB, a0, a1, a2, a3, b0, b1, b2, b3, d0, d1, d2, d3, f0, f1, f2, f3⟩ := args2 w (.int .i64 x0) (.int .i64 x1) (.int .i64 x2) (.int .i64 x3) (.int .i64 y0) (.int .i64 y1) (.int .i64 y2) (.int .i64 y3) 25
  unfold Enters at eg
  go_enter Try.func48, Try.ntmps48
  go_wp2
  have k_a0 := cell_regrown a0
  have k_a1 := cell_regrown a1
  have k_a2 := cell_regrown a2
  have k_a3 := cell_regrown a3
  have k_b0 := cell_regrown b0
  have k_b1 := cell_regrown b1
  have k_b2 := cell_regrown b2
  have k_b3 := cell_regrown b3
  have k_d0 := cell_regrown d0
  have k_d1 := cell_regrown d1
  have k_d2 := cell_regrown d2
  have k_d3 := cell_regrown d3
  refine wp_region_tail (n := 25) (by kernel_rfl) (by kernel_rfl) ?_
  simp only [List.take_succ_cons, List.take_zero, List.drop_succ_cons, List.drop_zero]
  repeat (first | go_big_quiet_step ((first | (go_at_fn g; exact Calls.regrown_of (hp _ _ _ (bon BB (below_regrown _ _ _)))))) | quiet_step ((first | (go_at_fn g; exact Calls.regrown_of (hp _ _ _ (bon BB (below_regrown _ _ _)))))))
  refine wpQuiet_nil ?_
  intro W hw'
  have B := below_regrown' hw'
  clear hw' k_a0 k_a1 k_a2 k_a3 k_b0 k_b1 k_b2 k_b3 k_d0 k_d1 k_d2 k_d3
  replace BB := bon BB B
  replace f0 := frozen_below B d0 f0
  replace f1 := frozen_below B d1 f1
  replace f2 := frozen_below B d2 f2
  replace f3 := frozen_below B d3 f3
  replace a0 := cell_below B a0
  replace a1 := cell_below B a1
  replace a2 := cell_below B a2
  replace a3 := cell_below B a3
  replace b0 := cell_below B b0
  replace b1 := cell_below B b1
  replace b2 := cell_below B b2
  replace b3 := cell_below B b3
  replace d0 := cell_below B d0
  replace d1 := cell_below B d1
  replace d2 := cell_below B d2
  replace d3 := cell_below B d3
  go_wp2
  exact bodyPost_ret (v := .agg #[.int .i64 (f x0 y0), .int .i64 (f x1 y1), .int .i64 (f x2 y2), .int .i64 (f x3 y3)]) (by simp [results, Try.results48, go_sem, *]) rfl ⟨rfl, (((BB.setCell (by simp; omega) _).setCell (by simp; omega) _).setCell (by simp; omega) _).setCell (by simp; omega) _⟩

theorem each_b (g : Nat) (lb : Array Value) (f : Int → Int) (x0 x1 x2 x3 : Int) (w : World) (eg : Enters Try.prog g) (hp : Op1 g lb f w) :
    Calls Try.prog 46 #[.agg #[.int .i64 x0, .int .i64 x1, .int .i64 x2, .int .i64 x3], .func (.func g) #[] lb] w fun e w' =>
      e = .returned (.agg #[.int .i64 (f x0), .int .i64 (f x1), .int .i64 (f x2), .int .i64 (f x3)]) ∧ Below w.heap.size w w' := by
  obtain ⟨BB, a0, a1, a2, a3, d0, d1, d2, d3, f0, f1, f2, f3⟩ := args1 w (.int .i64 x0) (.int .i64 x1) (.int .i64 x2) (.int .i64 x3) 25
  unfold Enters at eg
  go_enter Try.func46, Try.ntmps46
  go_wp2
  have k_a0 := cell_regrown a0
  have k_a1 := cell_regrown a1
  have k_a2 := cell_regrown a2
  have k_a3 := cell_regrown a3
  have k_d0 := cell_regrown d0
  have k_d1 := cell_regrown d1
  have k_d2 := cell_regrown d2
  have k_d3 := cell_regrown d3
  refine wp_region_tail (n := 17) (by kernel_rfl) (by kernel_rfl) ?_
  simp only [List.take_succ_cons, List.take_zero, List.drop_succ_cons, List.drop_zero]
  repeat (first | go_big_quiet_step ((first | (go_at_fn g; exact Calls.regrown_of (hp _ _ (bon BB (below_regrown _ _ _)))))) | quiet_step ((first | (go_at_fn g; exact Calls.regrown_of (hp _ _ (bon BB (below_regrown _ _ _)))))))
  refine wpQuiet_nil ?_
  intro W hw'
  have B := below_regrown' hw'
  clear hw' k_a0 k_a1 k_a2 k_a3 k_d0 k_d1 k_d2 k_d3
  replace BB := bon BB B
  replace f0 := frozen_below B d0 f0
  replace f1 := frozen_below B d1 f1
  replace f2 := frozen_below B d2 f2
  replace f3 := frozen_below B d3 f3
  replace a0 := cell_below B a0
  replace a1 := cell_below B a1
  replace a2 := cell_below B a2
  replace a3 := cell_below B a3
  replace d0 := cell_below B d0
  replace d1 := cell_below B d1
  replace d2 := cell_below B d2
  replace d3 := cell_below B d3
  go_wp2
  exact bodyPost_ret (v := .agg #[.int .i64 (f x0), .int .i64 (f x1), .int .i64 (f x2), .int .i64 (f x3)]) (by simp [results, Try.results46, go_sem, *]) rfl ⟨rfl, (((BB.setCell (by simp) _).setCell (by simp) _).setCell (by simp) _).setCell (by simp) _⟩

end Go.Proofs.Ytoipmldbjciinaa

/- What the calls of package vec return: the functions over one or two vectors. -/
namespace Go.Proofs.Ytoipmldbjciinaa
open Go.RowKit Go.Sort

/-- A vector, a number and a result, or two vectors, in blocks of their own. -/
theorem args1k (w : World) (a0 a1 a2 a3 k0 : Value) (t u : TypeId) :
    Below w.heap.size w (((w.alloc (.cells #[a0, a1, a2, a3] t)).alloc (.cells #[k0] u)).alloc (.cells #[.int .i64 0, .int .i64 0, .int .i64 0, .int .i64 0] t)) ∧
    (((w.alloc (.cells #[a0, a1, a2, a3] t)).alloc (.cells #[k0] u)).alloc (.cells #[.int .i64 0, .int .i64 0, .int .i64 0, .int .i64 0] t)).cell? ⟨w.heap.size, 0, none⟩ = some (a0) ∧
    (((w.alloc (.cells #[a0, a1, a2, a3] t)).alloc (.cells #[k0] u)).alloc (.cells #[.int .i64 0, .int .i64 0, .int .i64 0, .int .i64 0] t)).cell? ⟨w.heap.size, 1, none⟩ = some (a1) ∧
    (((w.alloc (.cells #[a0, a1, a2, a3] t)).alloc (.cells #[k0] u)).alloc (.cells #[.int .i64 0, .int .i64 0, .int .i64 0, .int .i64 0] t)).cell? ⟨w.heap.size, 2, none⟩ = some (a2) ∧
    (((w.alloc (.cells #[a0, a1, a2, a3] t)).alloc (.cells #[k0] u)).alloc (.cells #[.int .i64 0, .int .i64 0, .int .i64 0, .int .i64 0] t)).cell? ⟨w.heap.size, 3, none⟩ = some (a3) ∧
    (((w.alloc (.cells #[a0, a1, a2, a3] t)).alloc (.cells #[k0] u)).alloc (.cells #[.int .i64 0, .int .i64 0, .int .i64 0, .int .i64 0] t)).cell? ⟨w.heap.size + 1, 0, none⟩ = some (k0) ∧
    (((w.alloc (.cells #[a0, a1, a2, a3] t)).alloc (.cells #[k0] u)).alloc (.cells #[.int .i64 0, .int .i64 0, .int .i64 0, .int .i64 0] t)).cell? ⟨w.heap.size + 2, 0, none⟩ = some (.int .i64 0) ∧
    (((w.alloc (.cells #[a0, a1, a2, a3] t)).alloc (.cells #[k0] u)).alloc (.cells #[.int .i64 0, .int .i64 0, .int .i64 0, .int .i64 0] t)).cell? ⟨w.heap.size + 2, 1, none⟩ = some (.int .i64 0) ∧
    (((w.alloc (.cells #[a0, a1, a2, a3] t)).alloc (.cells #[k0] u)).alloc (.cells #[.int .i64 0, .int .i64 0, .int .i64 0, .int .i64 0] t)).cell? ⟨w.heap.size + 2, 2, none⟩ = some (.int .i64 0) ∧
    (((w.alloc (.cells #[a0, a1, a2, a3] t)).alloc (.cells #[k0] u)).alloc (.cells #[.int .i64 0, .int .i64 0, .int .i64 0, .int .i64 0] t)).cell? ⟨w.heap.size + 2, 3, none⟩ = some (.int .i64 0) ∧
    (((w.alloc (.cells #[a0, a1, a2, a3] t)).alloc (.cells #[k0] u)).alloc (.cells #[.int .i64 0, .int .i64 0, .int .i64 0, .int .i64 0] t)).frozen? ⟨w.heap.size + 2, 0, none⟩ = false ∧
    (((w.alloc (.cells #[a0, a1, a2, a3] t)).alloc (.cells #[k0] u)).alloc (.cells #[.int .i64 0, .int .i64 0, .int .i64 0, .int .i64 0] t)).frozen? ⟨w.heap.size + 2, 1, none⟩ = false ∧
    (((w.alloc (.cells #[a0, a1, a2, a3] t)).alloc (.cells #[k0] u)).alloc (.cells #[.int .i64 0, .int .i64 0, .int .i64 0, .int .i64 0] t)).frozen? ⟨w.heap.size + 2, 2, none⟩ = false ∧
    (((w.alloc (.cells #[a0, a1, a2, a3] t)).alloc (.cells #[k0] u)).alloc (.cells #[.int .i64 0, .int .i64 0, .int .i64 0, .int .i64 0] t)).frozen? ⟨w.heap.size + 2, 3, none⟩ = false := by
  have BB : Below w.heap.size w w := Below.refl _ _
  have z0 : w.heap.size = w.heap.size := by simp
  obtain ⟨B, BB⟩ := box_on BB #[a0, a1, a2, a3] t
  have p0_0 := box_cell w #[a0, a1, a2, a3] t 0 _ rfl
  have p0_1 := box_cell w #[a0, a1, a2, a3] t 1 _ rfl
  have p0_2 := box_cell w #[a0, a1, a2, a3] t 2 _ rfl
  have p0_3 := box_cell w #[a0, a1, a2, a3] t 3 _ rfl
  rw [z0] at p0_0 p0_1 p0_2 p0_3
  have z1 : (w.alloc (.cells #[a0, a1, a2, a3] t)).heap.size = w.heap.size + 1 := by simp
  obtain ⟨B, BB⟩ := box_on BB #[k0] u
  replace p0_0 := cell_below B p0_0
  replace p0_1 := cell_below B p0_1
  replace p0_2 := cell_below B p0_2
  replace p0_3 := cell_below B p0_3
  have p1_0 := box_cell (w.alloc (.cells #[a0, a1, a2, a3] t)) #[k0] u 0 _ rfl
  rw [z1] at p1_0
  have z2 : ((w.alloc (.cells #[a0, a1, a2, a3] t)).alloc (.cells #[k0] u)).heap.size = w.heap.size + 2 := by simp
  obtain ⟨B, BB⟩ := box_on BB #[.int .i64 0, .int .i64 0, .int .i64 0, .int .i64 0] t
  replace p0_0 := cell_below B p0_0
  replace p0_1 := cell_below B p0_1
  replace p0_2 := cell_below B p0_2
  replace p0_3 := cell_below B p0_3
  replace p1_0 := cell_below B p1_0
  have p2_0 := box_cell ((w.alloc (.cells #[a0, a1, a2, a3] t)).alloc (.cells #[k0] u)) #[.int .i64 0, .int .i64 0, .int .i64 0, .int .i64 0] t 0 _ rfl
  have p2_1 := box_cell ((w.alloc (.cells #[a0, a1, a2, a3] t)).alloc (.cells #[k0] u)) #[.int .i64 0, .int .i64 0, .int .i64 0, .int .i64 0] t 1 _ rfl
  have p2_2 := box_cell ((w.alloc (.cells #[a0, a1, a2, a3] t)).alloc (.cells #[k0] u)) #[.int .i64 0, .int .i64 0, .int .i64 0, .int .i64 0] t 2 _ rfl
  have p2_3 := box_cell ((w.alloc (.cells #[a0, a1, a2, a3] t)).alloc (.cells #[k0] u)) #[.int .i64 0, .int .i64 0, .int .i64 0, .int .i64 0] t 3 _ rfl
  rw [z2] at p2_0 p2_1 p2_2 p2_3
  have f2_0 : (((w.alloc (.cells #[a0, a1, a2, a3] t)).alloc (.cells #[k0] u)).alloc (.cells #[.int .i64 0, .int .i64 0, .int .i64 0, .int .i64 0] t)).frozen? ⟨w.heap.size + 2, 0, none⟩ = false := by rw [frozen?_alloc_cells, frozen?_alloc_cells, frozen?_alloc_cells]; unfold World.frozen?; simp
  have f2_1 : (((w.alloc (.cells #[a0, a1, a2, a3] t)).alloc (.cells #[k0] u)).alloc (.cells #[.int .i64 0, .int .i64 0, .int .i64 0, .int .i64 0] t)).frozen? ⟨w.heap.size + 2, 1, none⟩ = false := by rw [frozen?_alloc_cells, frozen?_alloc_cells, frozen?_alloc_cells]; unfold World.frozen?; simp
  have f2_2 : (((w.alloc (.cells #[a0, a1, a2, a3] t)).alloc (.cells #[k0] u)).alloc (.cells #[.int .i64 0, .int .i64 0, .int .i64 0, .int .i64 0] t)).frozen? ⟨w.heap.size + 2, 2, none⟩ = false := by rw [frozen?_alloc_cells, frozen?_alloc_cells, frozen?_alloc_cells]; unfold World.frozen?; simp
  have f2_3 : (((w.alloc (.cells #[a0, a1, a2, a3] t)).alloc (.cells #[k0] u)).alloc (.cells #[.int .i64 0, .int .i64 0, .int .i64 0, .int .i64 0] t)).frozen? ⟨w.heap.size + 2, 3, none⟩ = false := by rw [frozen?_alloc_cells, frozen?_alloc_cells, frozen?_alloc_cells]; unfold World.frozen?; simp
  exact ⟨BB, p0_0, p0_1, p0_2, p0_3, p1_0, p2_0, p2_1, p2_2, p2_3, f2_0, f2_1, f2_2, f2_3⟩

theorem args2k (w : World) (a0 a1 a2 a3 b0 b1 b2 b3 k0 : Value) (t u : TypeId) :
    Below w.heap.size w ((((w.alloc (.cells #[a0, a1, a2, a3] t)).alloc (.cells #[b0, b1, b2, b3] t)).alloc (.cells #[k0] u)).alloc (.cells #[.int .i64 0, .int .i64 0, .int .i64 0, .int .i64 0] t)) ∧
    ((((w.alloc (.cells #[a0, a1, a2, a3] t)).alloc (.cells #[b0, b1, b2, b3] t)).alloc (.cells #[k0] u)).alloc (.cells #[.int .i64 0, .int .i64 0, .int .i64 0, .int .i64 0] t)).cell? ⟨w.heap.size, 0, none⟩ = some (a0) ∧
    ((((w.alloc (.cells #[a0, a1, a2, a3] t)).alloc (.cells #[b0, b1, b2, b3] t)).alloc (.cells #[k0] u)).alloc (.cells #[.int .i64 0, .int .i64 0, .int .i64 0, .int .i64 0] t)).cell? ⟨w.heap.size, 1, none⟩ = some (a1) ∧
    ((((w.alloc (.cells #[a0, a1, a2, a3] t)).alloc (.cells #[b0, b1, b2, b3] t)).alloc (.cells #[k0] u)).alloc (.cells #[.int .i64 0, .int .i64 0, .int .i64 0, .int .i64 0] t)).cell? ⟨w.heap.size, 2, none⟩ = some (a2) ∧
    ((((w.alloc (.cells #[a0, a1, a2, a3] t)).alloc (.cells #[b0, b1, b2, b3] t)).alloc (.cells #[k0] u)).alloc (.cells #[.int .i64 0, .int .i64 0, .int .i64 0, .int .i64 0] t)).cell? ⟨w.heap.size, 3, none⟩ = some (a3) ∧
    ((((w.alloc (.cells #[a0, a1, a2, a3] t)).alloc (.cells #[b0, b1, b2, b3] t)).alloc (.cells #[k0] u)).alloc (.cells #[.int .i64 0, .int .i64 0, .int .i64 0, .int .i64 0] t)).cell? ⟨w.heap.size + 1, 0, none⟩ = some (b0) ∧
    ((((w.alloc (.cells #[a0, a1, a2, a3] t)).alloc (.cells #[b0, b1, b2, b3] t)).alloc (.cells #[k0] u)).alloc (.cells #[.int .i64 0, .int .i64 0, .int .i64 0, .int .i64 0] t)).cell? ⟨w.heap.size + 1, 1, none⟩ = some (b1) ∧
    ((((w.alloc (.cells #[a0, a1, a2, a3] t)).alloc (.cells #[b0, b1, b2, b3] t)).alloc (.cells #[k0] u)).alloc (.cells #[.int .i64 0, .int .i64 0, .int .i64 0, .int .i64 0] t)).cell? ⟨w.heap.size + 1, 2, none⟩ = some (b2) ∧
    ((((w.alloc (.cells #[a0, a1, a2, a3] t)).alloc (.cells #[b0, b1, b2, b3] t)).alloc (.cells #[k0] u)).alloc (.cells #[.int .i64 0, .int .i64 0, .int .i64 0, .int .i64 0] t)).cell? ⟨w.heap.size + 1, 3, none⟩ = some (b3) ∧
    ((((w.alloc (.cells #[a0, a1, a2, a3] t)).alloc (.cells #[b0, b1, b2, b3] t)).alloc (.cells #[k0] u)).alloc (.cells #[.int .i64 0, .int .i64 0, .int .i64 0, .int .i64 0] t)).cell? ⟨w.heap.size + 2, 0, none⟩ = some (k0) ∧
    ((((w.alloc (.cells #[a0, a1, a2, a3] t)).alloc (.cells #[b0, b1, b2, b3] t)).alloc (.cells #[k0] u)).alloc (.cells #[.int .i64 0, .int .i64 0, .int .i64 0, .int .i64 0] t)).cell? ⟨w.heap.size + 3, 0, none⟩ = some (.int .i64 0) ∧
    ((((w.alloc (.cells #[a0, a1, a2, a3] t)).alloc (.cells #[b0, b1, b2, b3] t)).alloc (.cells #[k0] u)).alloc (.cells #[.int .i64 0, .int .i64 0, .int .i64 0, .int .i64 0] t)).cell? ⟨w.heap.size + 3, 1, none⟩ = some (.int .i64 0) ∧
    ((((w.alloc (.cells #[a0, a1, a2, a3] t)).alloc (.cells #[b0, b1, b2, b3] t)).alloc (.cells #[k0] u)).alloc (.cells #[.int .i64 0, .int .i64 0, .int .i64 0, .int .i64 0] t)).cell? ⟨w.heap.size + 3, 2, none⟩ = some (.int .i64 0) ∧
    ((((w.alloc (.cells #[a0, a1, a2, a3] t)).alloc (.cells #[b0, b1, b2, b3] t)).alloc (.cells #[k0] u)).alloc (.cells #[.int .i64 0, .int .i64 0, .int .i64 0, .int .i64 0] t)).cell? ⟨w.heap.size + 3, 3, none⟩ = some (.int .i64 0) ∧
    ((((w.alloc (.cells #[a0, a1, a2, a3] t)).alloc (.cells #[b0, b1, b2, b3] t)).alloc (.cells #[k0] u)).alloc (.cells #[.int .i64 0, .int .i64 0, .int .i64 0, .int .i64 0] t)).frozen? ⟨w.heap.size + 3, 0, none⟩ = false ∧
    ((((w.alloc (.cells #[a0, a1, a2, a3] t)).alloc (.cells #[b0, b1, b2, b3] t)).alloc (.cells #[k0] u)).alloc (.cells #[.int .i64 0, .int .i64 0, .int .i64 0, .int .i64 0] t)).frozen? ⟨w.heap.size + 3, 1, none⟩ = false ∧
    ((((w.alloc (.cells #[a0, a1, a2, a3] t)).alloc (.cells #[b0, b1, b2, b3] t)).alloc (.cells #[k0] u)).alloc (.cells #[.int .i64 0, .int .i64 0, .int .i64 0, .int .i64 0] t)).frozen? ⟨w.heap.size + 3, 2, none⟩ = false ∧
    ((((w.alloc (.cells #[a0, a1, a2, a3] t)).alloc (.cells #[b0, b1, b2, b3] t)).alloc (.cells #[k0] u)).alloc (.cells #[.int .i64 0, .int .i64 0, .int .i64 0, .int .i64 0] t)).frozen? ⟨w.heap.size + 3, 3, none⟩ = false := by
  have BB : Below w.heap.size w w := Below.refl _ _
  have z0 : w.heap.size = w.heap.size := by simp
  obtain ⟨B, BB⟩ := box_on BB #[a0, a1, a2, a3] t
  have p0_0 := box_cell w #[a0, a1, a2, a3] t 0 _ rfl
  have p0_1 := box_cell w #[a0, a1, a2, a3] t 1 _ rfl
  have p0_2 := box_cell w #[a0, a1, a2, a3] t 2 _ rfl
  have p0_3 := box_cell w #[a0, a1, a2, a3] t 3 _ rfl
  rw [z0] at p0_0 p0_1 p0_2 p0_3
  have z1 : (w.alloc (.cells #[a0, a1, a2, a3] t)).heap.size = w.heap.size + 1 := by simp
  obtain ⟨B, BB⟩ := box_on BB #[b0, b1, b2, b3] t
  replace p0_0 := cell_below B p0_0
  replace p0_1 := cell_below B p0_1
  replace p0_2 := cell_below B p0_2
  replace p0_3 := cell_below B p0_3
  have p1_0 := box_cell (w.alloc (.cells #[a0, a1, a2, a3] t)) #[b0, b1, b2, b3] t 0 _ rfl
  have p1_1 := box_cell (w.alloc (.cells #[a0, a1, a2, a3] t)) #[b0, b1, b2, b3] t 1 _ rfl
  have p1_2 := box_cell (w.alloc (.cells #[a0, a1, a2, a3] t)) #[b0, b1, b2, b3] t 2 _ rfl
  have p1_3 := box_cell (w.alloc (.cells #[a0, a1, a2, a3] t)) #[b0, b1, b2, b3] t 3 _ rfl
  rw [z1] at p1_0 p1_1 p1_2 p1_3
  have z2 : ((w.alloc (.cells #[a0, a1, a2, a3] t)).alloc (.cells #[b0, b1, b2, b3] t)).heap.size = w.heap.size + 2 := by simp
  obtain ⟨B, BB⟩ := box_on BB #[k0] u
  replace p0_0 := cell_below B p0_0
  replace p0_1 := cell_below B p0_1
  replace p0_2 := cell_below B p0_2
  replace p0_3 := cell_below B p0_3
  replace p1_0 := cell_below B p1_0
  replace p1_1 := cell_below B p1_1
  replace p1_2 := cell_below B p1_2
  replace p1_3 := cell_below B p1_3
  have p2_0 := box_cell ((w.alloc (.cells #[a0, a1, a2, a3] t)).alloc (.cells #[b0, b1, b2, b3] t)) #[k0] u 0 _ rfl
  rw [z2] at p2_0
  have z3 : (((w.alloc (.cells #[a0, a1, a2, a3] t)).alloc (.cells #[b0, b1, b2, b3] t)).alloc (.cells #[k0] u)).heap.size = w.heap.size + 3 := by simp
  obtain ⟨B, BB⟩ := box_on BB #[.int .i64 0, .int .i64 0, .int .i64 0, .int .i64 0] t
  replace p0_0 := cell_below B p0_0
  replace p0_1 := cell_below B p0_1
  replace p0_2 := cell_below B p0_2
  replace p0_3 := cell_below B p0_3
  replace p1_0 := cell_below B p1_0
  replace p1_1 := cell_below B p1_1
  replace p1_2 := cell_below B p1_2
  replace p1_3 := cell_below B p1_3
  replace p2_0 := cell_below B p2_0
  have p3_0 := box_cell (((w.alloc (.cells #[a0, a1, a2, a3] t)).alloc (.cells #[b0, b1, b2, b3] t)).alloc (.cells #[k0] u)) #[.int .i64 0, .int .i64 0, .int .i64 0, .int .i64 0] t 0 _ rfl
  have p3_1 := box_cell (((w.alloc (.cells #[a0, a1, a2, a3] t)).alloc (.cells #[b0, b1, b2, b3] t)).alloc (.cells #[k0] u)) #[.int .i64 0, .int .i64 0, .int .i64 0, .int .i64 0] t 1 _ rfl
  have p3_2 := box_cell (((w.alloc (.cells #[a0, a1, a2, a3] t)).alloc (.cells #[b0, b1, b2, b3] t)).alloc (.cells #[k0] u)) #[.int .i64 0, .int .i64 0, .int .i64 0, .int .i64 0] t 2 _ rfl
  have p3_3 := box_cell (((w.alloc (.cells #[a0, a1, a2, a3] t)).alloc (.cells #[b0, b1, b2, b3] t)).alloc (.cells #[k0] u)) #[.int .i64 0, .int .i64 0, .int .i64 0, .int .i64 0] t 3 _ rfl
  rw [z3] at p3_0 p3_1 p3_2 p3_3
  have f3_0 : ((((w.alloc (.cells #[a0, a1, a2, a3] t)).alloc (.cells #[b0, b1, b2, b3] t)).alloc (.cells #[k0] u)).alloc (.cells #[.int .i64 0, .int .i64 0, .int .i64 0, .int .i64 0] t)).frozen? ⟨w.heap.size + 3, 0, none⟩ = false := by rw [frozen?_alloc_cells, frozen?_alloc_cells, frozen?_alloc_cells, frozen?_alloc_cells]; unfold World.frozen?; simp
  have f3_1 : ((((w.alloc (.cells #[a0, a1, a2, a3] t)).alloc (.cells #[b0, b1, b2, b3] t)).alloc (.cells #[k0] u)).alloc (.cells #[.int .i64 0, .int .i64 0, .int .i64 0, .int .i64 0] t)).frozen? ⟨w.heap.size + 3, 1, none⟩ = false := by rw [frozen?_alloc_cells, frozen?_alloc_cells, frozen?_alloc_cells, frozen?_alloc_cells]; unfold World.frozen?; simp
  have f3_2 : ((((w.alloc (.cells #[a0, a1, a2, a3] t)).alloc (.cells #[b0, b1, b2, b3] t)).alloc (.cells #[k0] u)).alloc (.cells #[.int .i64 0, .int .i64 0, .int .i64 0, .int .i64 0] t)).frozen? ⟨w.heap.size + 3, 2, none⟩ = false := by rw [frozen?_alloc_cells, frozen?_alloc_cells, frozen?_alloc_cells, frozen?_alloc_cells]; unfold World.frozen?; simp
  have f3_3 : ((((w.alloc (.cells #[a0, a1, a2, a3] t)).alloc (.cells #[b0, b1, b2, b3] t)).alloc (.cells #[k0] u)).alloc (.cells #[.int .i64 0, .int .i64 0, .int .i64 0, .int .i64 0] t)).frozen? ⟨w.heap.size + 3, 3, none⟩ = false := by rw [frozen?_alloc_cells, frozen?_alloc_cells, frozen?_alloc_cells, frozen?_alloc_cells]; unfold World.frozen?; simp
  exact ⟨BB, p0_0, p0_1, p0_2, p0_3, p1_0, p1_1, p1_2, p1_3, p2_0, p3_0, p3_1, p3_2, p3_3, f3_0, f3_1, f3_2, f3_3⟩

def imax (x y : Int) : Int := if x < y then y else x

theorem lrp_b (x y k : Int) (p : Addr) (w : World) (c : w.cell? p = some (.int .i64 k)) :
    Calls Try.prog 49 #[.int .i64 x, .int .i64 y, .pointer (some p)] w fun e w' => e = .returned (.int .i64 (lerpv x y k)) ∧ Below w.heap.size w w' := by
  obtain ⟨pb, pi, pm⟩ := p
  go_enter Try.func49, Try.ntmps49
  go_wp2_with (go_at_call 50; refine (lerp_b _ _ _ _).mono ?_; rintro _ _ ⟨rfl, B⟩)
  go_ret
  exact ⟨rfl, B⟩

theorem clm_b (x : Int) (w : World) :
    Calls Try.prog 47 #[.int .i64 x] w fun e w' => e = .returned (.int .i64 (clampv x 0 65536)) ∧ Below w.heap.size w w' := by
  go_enter Try.func47, Try.ntmps47
  go_wp2_with (go_at_call 19; refine (clamp_b _ _ _ _).mono ?_; rintro _ _ ⟨rfl, B⟩)
  go_ret
  exact ⟨rfl, B⟩

theorem clamp4 (x0 x1 x2 x3 : Int) (w : World) :
    Calls Try.prog 32 #[.agg #[.int .i64 x0, .int .i64 x1, .int .i64 x2, .int .i64 x3]] w fun e w' =>
      e = .returned (.agg #[.int .i64 (clampv x0 0 65536), .int .i64 (clampv x1 0 65536), .int .i64 (clampv x2 0 65536), .int .i64 (clampv x3 0 65536)]) ∧ Below w.heap.size w w' := by
  obtain ⟨BB, a0, a1, a2, a3, d0, d1, d2, d3, f0, f1, f2, f3⟩ := args1 w (.int .i64 x0) (.int .i64 x1) (.int .i64 x2) (.int .i64 x3) 25
  go_enter Try.func32, Try.ntmps32
  go_wp2_with (first | (go_at_call 46; refine (each_b 47 #[] (fun x => clampv x 0 65536) _ _ _ _ _ (enters_of Try.func47 (by kernel_rfl) rfl) (fun _ _ _ => clm_b _ _)).mono ?_; rintro _ _ ⟨rfl, B⟩; replace BB := bon BB B; replace f0 := frozen_below B d0 f0; replace f1 := frozen_below B d1 f1; replace f2 := frozen_below B d2 f2; replace f3 := frozen_below B d3 f3; replace a0 := cell_below B a0; replace a1 := cell_below B a1; replace a2 := cell_below B a2; replace a3 := cell_below B a3; replace d0 := cell_below B d0; replace d1 := cell_below B d1; replace d2 := cell_below B d2; replace d3 := cell_below B d3))
  exact bodyPost_ret (v := .agg #[.int .i64 (clampv x0 0 65536), .int .i64 (clampv x1 0 65536), .int .i64 (clampv x2 0 65536), .int .i64 (clampv x3 0 65536)]) (by simp [results, Try.results32, go_sem, *]) rfl ⟨rfl, (((BB.setCell (by simp) _).setCell (by simp) _).setCell (by simp) _).setCell (by simp) _⟩

theorem lerp4 (x0 x1 x2 x3 y0 y1 y2 y3 k : Int) (w : World) :
    Calls Try.prog 34 #[.agg #[.int .i64 x0, .int .i64 x1, .int .i64 x2, .int .i64 x3], .agg #[.int .i64 y0, .int .i64 y1, .int .i64 y2, .int .i64 y3], .int .i64 k] w fun e w' =>
      e = .returned (.agg #[.int .i64 (lerpv x0 y0 k), .int .i64 (lerpv x1 y1 k), .int .i64 (lerpv x2 y2 k), .int .i64 (lerpv x3 y3 k)]) ∧ Below w.heap.size w w' := by
  obtain ⟨BB, a0, a1, a2, a3, b0, b1, b2, b3, k0, d0, d1, d2, d3, f0, f1, f2, f3⟩ := args2k w (.int .i64 x0) (.int .i64 x1) (.int .i64 x2) (.int .i64 x3) (.int .i64 y0) (.int .i64 y1) (.int .i64 y2) (.int .i64 y3) (.int .i64 k) 25 3
  go_enter Try.func34, Try.ntmps34
  go_wp2_with (first | (go_at_call 48; refine (eachtwo_b 49 #[_] (fun x y => lerpv x y k) _ _ _ _ _ _ _ _ _ (enters_of Try.func49 (by kernel_rfl) rfl) (fun _ _ _ h => lrp_b _ _ _ _ _ (cell_below h k0))).mono ?_; rintro _ _ ⟨rfl, B⟩; replace BB := bon BB B; replace f0 := frozen_below B d0 f0; replace f1 := frozen_below B d1 f1; replace f2 := frozen_below B d2 f2; replace f3 := frozen_below B d3 f3; replace a0 := cell_below B a0; replace a1 := cell_below B a1; replace a2 := cell_below B a2; replace a3 := cell_below B a3; replace b0 := cell_below B b0; replace b1 := cell_below B b1; replace b2 := cell_below B b2; replace b3 := cell_below B b3; replace k0 := cell_below B k0; replace d0 := cell_below B d0; replace d1 := cell_below B d1; replace d2 := cell_below B d2; replace d3 := cell_below B d3))
  exact bodyPost_ret (v := .agg #[.int .i64 (lerpv x0 y0 k), .int .i64 (lerpv x1 y1 k), .int .i64 (lerpv x2 y2 k), .int .i64 (lerpv x3 y3 k)]) (by simp [results, Try.results34, go_sem, *]) rfl ⟨rfl, (((BB.setCell (by simp; omega) _).setCell (by simp; omega) _).setCell (by simp; omega) _).setCell (by simp; omega) _⟩

end Go.Proofs.Ytoipmldbjciinaa

/- What the calls of package vec return: lists, components, and the dot product. -/
namespace Go.Proofs.Ytoipmldbjciinaa
open Go.RowKit Go.Sort

/-- Four cells and a result of another type, each in a block of its own; two results. -/
theorem argsar (w : World) (a0 a1 a2 a3 : Value) (t u : TypeId) :
    Below w.heap.size w ((w.alloc (.cells #[a0, a1, a2, a3] t)).alloc (.cells #[.int .i64 0, .int .i64 0, .int .i64 0, .int .i64 0] u)) ∧
    ((w.alloc (.cells #[a0, a1, a2, a3] t)).alloc (.cells #[.int .i64 0, .int .i64 0, .int .i64 0, .int .i64 0] u)).cell? ⟨w.heap.size, 0, none⟩ = some (a0) ∧
    ((w.alloc (.cells #[a0, a1, a2, a3] t)).alloc (.cells #[.int .i64 0, .int .i64 0, .int .i64 0, .int .i64 0] u)).cell? ⟨w.heap.size, 1, none⟩ = some (a1) ∧
    ((w.alloc (.cells #[a0, a1, a2, a3] t)).alloc (.cells #[.int .i64 0, .int .i64 0, .int .i64 0, .int .i64 0] u)).cell? ⟨w.heap.size, 2, none⟩ = some (a2) ∧
    ((w.alloc (.cells #[a0, a1, a2, a3] t)).alloc (.cells #[.int .i64 0, .int .i64 0, .int .i64 0, .int .i64 0] u)).cell? ⟨w.heap.size, 3, none⟩ = some (a3) ∧
    ((w.alloc (.cells #[a0, a1, a2, a3] t)).alloc (.cells #[.int .i64 0, .int .i64 0, .int .i64 0, .int .i64 0] u)).cell? ⟨w.heap.size + 1, 0, none⟩ = some (.int .i64 0) ∧
    ((w.alloc (.cells #[a0, a1, a2, a3] t)).alloc (.cells #[.int .i64 0, .int .i64 0, .int .i64 0, .int .i64 0] u)).cell? ⟨w.heap.size + 1, 1, none⟩ = some (.int .i64 0) ∧
    ((w.alloc (.cells #[a0, a1, a2, a3] t)).alloc (.cells #[.int .i64 0, .int .i64 0, .int .i64 0, .int .i64 0] u)).cell? ⟨w.heap.size + 1, 2, none⟩ = some (.int .i64 0) ∧
    ((w.alloc (.cells #[a0, a1, a2, a3] t)).alloc (.cells #[.int .i64 0, .int .i64 0, .int .i64 0, .int .i64 0] u)).cell? ⟨w.heap.size + 1, 3, none⟩ = some (.int .i64 0) ∧
    ((w.alloc (.cells #[a0, a1, a2, a3] t)).alloc (.cells #[.int .i64 0, .int .i64 0, .int .i64 0, .int .i64 0] u)).frozen? ⟨w.heap.size + 1, 0, none⟩ = false ∧
    ((w.alloc (.cells #[a0, a1, a2, a3] t)).alloc (.cells #[.int .i64 0, .int .i64 0, .int .i64 0, .int .i64 0] u)).frozen? ⟨w.heap.size + 1, 1, none⟩ = false ∧
    ((w.alloc (.cells #[a0, a1, a2, a3] t)).alloc (.cells #[.int .i64 0, .int .i64 0, .int .i64 0, .int .i64 0] u)).frozen? ⟨w.heap.size + 1, 2, none⟩ = false ∧
    ((w.alloc (.cells #[a0, a1, a2, a3] t)).alloc (.cells #[.int .i64 0, .int .i64 0, .int .i64 0, .int .i64 0] u)).frozen? ⟨w.heap.size + 1, 3, none⟩ = false := by
  have BB : Below w.heap.size w w := Below.refl _ _
  have z0 : w.heap.size = w.heap.size := by simp
  obtain ⟨B, BB⟩ := box_on BB #[a0, a1, a2, a3] t
  have p0_0 := box_cell w #[a0, a1, a2, a3] t 0 _ rfl
  have p0_1 := box_cell w #[a0, a1, a2, a3] t 1 _ rfl
  have p0_2 := box_cell w #[a0, a1, a2, a3] t 2 _ rfl
  have p0_3 := box_cell w #[a0, a1, a2, a3] t 3 _ rfl
  rw [z0] at p0_0 p0_1 p0_2 p0_3
  have z1 : (w.alloc (.cells #[a0, a1, a2, a3] t)).heap.size = w.heap.size + 1 := by simp
  obtain ⟨B, BB⟩ := box_on BB #[.int .i64 0, .int .i64 0, .int .i64 0, .int .i64 0] u
  replace p0_0 := cell_below B p0_0
  replace p0_1 := cell_below B p0_1
  replace p0_2 := cell_below B p0_2
  replace p0_3 := cell_below B p0_3
  have p1_0 := box_cell (w.alloc (.cells #[a0, a1, a2, a3] t)) #[.int .i64 0, .int .i64 0, .int .i64 0, .int .i64 0] u 0 _ rfl
  have p1_1 := box_cell (w.alloc (.cells #[a0, a1, a2, a3] t)) #[.int .i64 0, .int .i64 0, .int .i64 0, .int .i64 0] u 1 _ rfl
  have p1_2 := box_cell (w.alloc (.cells #[a0, a1, a2, a3] t)) #[.int .i64 0, .int .i64 0, .int .i64 0, .int .i64 0] u 2 _ rfl
  have p1_3 := box_cell (w.alloc (.cells #[a0, a1, a2, a3] t)) #[.int .i64 0, .int .i64 0, .int .i64 0, .int .i64 0] u 3 _ rfl
  rw [z1] at p1_0 p1_1 p1_2 p1_3
  have f1_0 : ((w.alloc (.cells #[a0, a1, a2, a3] t)).alloc (.cells #[.int .i64 0, .int .i64 0, .int .i64 0, .int .i64 0] u)).frozen? ⟨w.heap.size + 1, 0, none⟩ = false := by rw [frozen?_alloc_cells, frozen?_alloc_cells]; unfold World.frozen?; simp
  have f1_1 : ((w.alloc (.cells #[a0, a1, a2, a3] t)).alloc (.cells #[.int .i64 0, .int .i64 0, .int .i64 0, .int .i64 0] u)).frozen? ⟨w.heap.size + 1, 1, none⟩ = false := by rw [frozen?_alloc_cells, frozen?_alloc_cells]; unfold World.frozen?; simp
  have f1_2 : ((w.alloc (.cells #[a0, a1, a2, a3] t)).alloc (.cells #[.int .i64 0, .int .i64 0, .int .i64 0, .int .i64 0] u)).frozen? ⟨w.heap.size + 1, 2, none⟩ = false := by rw [frozen?_alloc_cells, frozen?_alloc_cells]; unfold World.frozen?; simp
  have f1_3 : ((w.alloc (.cells #[a0, a1, a2, a3] t)).alloc (.cells #[.int .i64 0, .int .i64 0, .int .i64 0, .int .i64 0] u)).frozen? ⟨w.heap.size + 1, 3, none⟩ = false := by rw [frozen?_alloc_cells, frozen?_alloc_cells]; unfold World.frozen?; simp
  exact ⟨BB, p0_0, p0_1, p0_2, p0_3, p1_0, p1_1, p1_2, p1_3, f1_0, f1_1, f1_2, f1_3⟩

theorem argsoo (w : World) (t u : TypeId) :
    Below w.heap.size w ((w.alloc (.cells #[.int .i64 0, .int .i64 0, .int .i64 0, .int .i64 0] t)).alloc (.cells #[.int .i64 0, .int .i64 0, .int .i64 0, .int .i64 0] u)) ∧
    ((w.alloc (.cells #[.int .i64 0, .int .i64 0, .int .i64 0, .int .i64 0] t)).alloc (.cells #[.int .i64 0, .int .i64 0, .int .i64 0, .int .i64 0] u)).cell? ⟨w.heap.size, 0, none⟩ = some (.int .i64 0) ∧
    ((w.alloc (.cells #[.int .i64 0, .int .i64 0, .int .i64 0, .int .i64 0] t)).alloc (.cells #[.int .i64 0, .int .i64 0, .int .i64 0, .int .i64 0] u)).cell? ⟨w.heap.size, 1, none⟩ = some (.int .i64 0) ∧
    ((w.alloc (.cells #[.int .i64 0, .int .i64 0, .int .i64 0, .int .i64 0] t)).alloc (.cells #[.int .i64 0, .int .i64 0, .int .i64 0, .int .i64 0] u)).cell? ⟨w.heap.size, 2, none⟩ = some (.int .i64 0) ∧
    ((w.alloc (.cells #[.int .i64 0, .int .i64 0, .int .i64 0, .int .i64 0] t)).alloc (.cells #[.int .i64 0, .int .i64 0, .int .i64 0, .int .i64 0] u)).cell? ⟨w.heap.size, 3, none⟩ = some (.int .i64 0) ∧
    ((w.alloc (.cells #[.int .i64 0, .int .i64 0, .int .i64 0, .int .i64 0] t)).alloc (.cells #[.int .i64 0, .int .i64 0, .int .i64 0, .int .i64 0] u)).cell? ⟨w.heap.size + 1, 0, none⟩ = some (.int .i64 0) ∧
    ((w.alloc (.cells #[.int .i64 0, .int .i64 0, .int .i64 0, .int .i64 0] t)).alloc (.cells #[.int .i64 0, .int .i64 0, .int .i64 0, .int .i64 0] u)).cell? ⟨w.heap.size + 1, 1, none⟩ = some (.int .i64 0) ∧
    ((w.alloc (.cells #[.int .i64 0, .int .i64 0, .int .i64 0, .int .i64 0] t)).alloc (.cells #[.int .i64 0, .int .i64 0, .int .i64 0, .int .i64 0] u)).cell? ⟨w.heap.size + 1, 2, none⟩ = some (.int .i64 0) ∧
    ((w.alloc (.cells #[.int .i64 0, .int .i64 0, .int .i64 0, .int .i64 0] t)).alloc (.cells #[.int .i64 0, .int .i64 0, .int .i64 0, .int .i64 0] u)).cell? ⟨w.heap.size + 1, 3, none⟩ = some (.int .i64 0) ∧
    ((w.alloc (.cells #[.int .i64 0, .int .i64 0, .int .i64 0, .int .i64 0] t)).alloc (.cells #[.int .i64 0, .int .i64 0, .int .i64 0, .int .i64 0] u)).frozen? ⟨w.heap.size, 0, none⟩ = false ∧
    ((w.alloc (.cells #[.int .i64 0, .int .i64 0, .int .i64 0, .int .i64 0] t)).alloc (.cells #[.int .i64 0, .int .i64 0, .int .i64 0, .int .i64 0] u)).frozen? ⟨w.heap.size, 1, none⟩ = false ∧
    ((w.alloc (.cells #[.int .i64 0, .int .i64 0, .int .i64 0, .int .i64 0] t)).alloc (.cells #[.int .i64 0, .int .i64 0, .int .i64 0, .int .i64 0] u)).frozen? ⟨w.heap.size, 2, none⟩ = false ∧
    ((w.alloc (.cells #[.int .i64 0, .int .i64 0, .int .i64 0, .int .i64 0] t)).alloc (.cells #[.int .i64 0, .int .i64 0, .int .i64 0, .int .i64 0] u)).frozen? ⟨w.heap.size, 3, none⟩ = false ∧
    ((w.alloc (.cells #[.int .i64 0, .int .i64 0, .int .i64 0, .int .i64 0] t)).alloc (.cells #[.int .i64 0, .int .i64 0, .int .i64 0, .int .i64 0] u)).frozen? ⟨w.heap.size + 1, 0, none⟩ = false ∧
    ((w.alloc (.cells #[.int .i64 0, .int .i64 0, .int .i64 0, .int .i64 0] t)).alloc (.cells #[.int .i64 0, .int .i64 0, .int .i64 0, .int .i64 0] u)).frozen? ⟨w.heap.size + 1, 1, none⟩ = false ∧
    ((w.alloc (.cells #[.int .i64 0, .int .i64 0, .int .i64 0, .int .i64 0] t)).alloc (.cells #[.int .i64 0, .int .i64 0, .int .i64 0, .int .i64 0] u)).frozen? ⟨w.heap.size + 1, 2, none⟩ = false ∧
    ((w.alloc (.cells #[.int .i64 0, .int .i64 0, .int .i64 0, .int .i64 0] t)).alloc (.cells #[.int .i64 0, .int .i64 0, .int .i64 0, .int .i64 0] u)).frozen? ⟨w.heap.size + 1, 3, none⟩ = false := by
  have BB : Below w.heap.size w w := Below.refl _ _
  have z0 : w.heap.size = w.heap.size := by simp
  obtain ⟨B, BB⟩ := box_on BB #[.int .i64 0, .int .i64 0, .int .i64 0, .int .i64 0] t
  have p0_0 := box_cell w #[.int .i64 0, .int .i64 0, .int .i64 0, .int .i64 0] t 0 _ rfl
  have p0_1 := box_cell w #[.int .i64 0, .int .i64 0, .int .i64 0, .int .i64 0] t 1 _ rfl
  have p0_2 := box_cell w #[.int .i64 0, .int .i64 0, .int .i64 0, .int .i64 0] t 2 _ rfl
  have p0_3 := box_cell w #[.int .i64 0, .int .i64 0, .int .i64 0, .int .i64 0] t 3 _ rfl
  rw [z0] at p0_0 p0_1 p0_2 p0_3
  have f0_0 : (w.alloc (.cells #[.int .i64 0, .int .i64 0, .int .i64 0, .int .i64 0] t)).frozen? ⟨w.heap.size, 0, none⟩ = false := by rw [frozen?_alloc_cells]; unfold World.frozen?; simp
  have f0_1 : (w.alloc (.cells #[.int .i64 0, .int .i64 0, .int .i64 0, .int .i64 0] t)).frozen? ⟨w.heap.size, 1, none⟩ = false := by rw [frozen?_alloc_cells]; unfold World.frozen?; simp
  have f0_2 : (w.alloc (.cells #[.int .i64 0, .int .i64 0, .int .i64 0, .int .i64 0] t)).frozen? ⟨w.heap.size, 2, none⟩ = false := by rw [frozen?_alloc_cells]; unfold World.frozen?; simp
  have f0_3 : (w.alloc (.cells #[.int .i64 0, .int .i64 0, .int .i64 0, .int .i64 0] t)).frozen? ⟨w.heap.size, 3, none⟩ = false := by rw [frozen?_alloc_cells]; unfold World.frozen?; simp
  have z1 : (w.alloc (.cells #[.int .i64 0, .int .i64 0, .int .i64 0, .int .i64 0] t)).heap.size = w.heap.size + 1 := by simp
  obtain ⟨B, BB⟩ := box_on BB #[.int .i64 0, .int .i64 0, .int .i64 0, .int .i64 0] u
  replace f0_0 := frozen_below B p0_0 f0_0
  replace f0_1 := frozen_below B p0_1 f0_1
  replace f0_2 := frozen_below B p0_2 f0_2
  replace f0_3 := frozen_below B p0_3 f0_3
  replace p0_0 := cell_below B p0_0
  replace p0_1 := cell_below B p0_1
  replace p0_2 := cell_below B p0_2
  replace p0_3 := cell_below B p0_3
  have p1_0 := box_cell (w.alloc (.cells #[.int .i64 0, .int .i64 0, .int .i64 0, .int .i64 0] t)) #[.int .i64 0, .int .i64 0, .int .i64 0, .int .i64 0] u 0 _ rfl
  have p1_1 := box_cell (w.alloc (.cells #[.int .i64 0, .int .i64 0, .int .i64 0, .int .i64 0] t)) #[.int .i64 0, .int .i64 0, .int .i64 0, .int .i64 0] u 1 _ rfl
  have p1_2 := box_cell (w.alloc (.cells #[.int .i64 0, .int .i64 0, .int .i64 0, .int .i64 0] t)) #[.int .i64 0, .int .i64 0, .int .i64 0, .int .i64 0] u 2 _ rfl
  have p1_3 := box_cell (w.alloc (.cells #[.int .i64 0, .int .i64 0, .int .i64 0, .int .i64 0] t)) #[.int .i64 0, .int .i64 0, .int .i64 0, .int .i64 0] u 3 _ rfl
  rw [z1] at p1_0 p1_1 p1_2 p1_3
  have f1_0 : ((w.alloc (.cells #[.int .i64 0, .int .i64 0, .int .i64 0, .int .i64 0] t)).alloc (.cells #[.int .i64 0, .int .i64 0, .int .i64 0, .int .i64 0] u)).frozen? ⟨w.heap.size + 1, 0, none⟩ = false := by rw [frozen?_alloc_cells, frozen?_alloc_cells]; unfold World.frozen?; simp
  have f1_1 : ((w.alloc (.cells #[.int .i64 0, .int .i64 0, .int .i64 0, .int .i64 0] t)).alloc (.cells #[.int .i64 0, .int .i64 0, .int .i64 0, .int .i64 0] u)).frozen? ⟨w.heap.size + 1, 1, none⟩ = false := by rw [frozen?_alloc_cells, frozen?_alloc_cells]; unfold World.frozen?; simp
  have f1_2 : ((w.alloc (.cells #[.int .i64 0, .int .i64 0, .int .i64 0, .int .i64 0] t)).alloc (.cells #[.int .i64 0, .int .i64 0, .int .i64 0, .int .i64 0] u)).frozen? ⟨w.heap.size + 1, 2, none⟩ = false := by rw [frozen?_alloc_cells, frozen?_alloc_cells]; unfold World.frozen?; simp
  have f1_3 : ((w.alloc (.cells #[.int .i64 0, .int .i64 0, .int .i64 0, .int .i64 0] t)).alloc (.cells #[.int .i64 0, .int .i64 0, .int .i64 0, .int .i64 0] u)).frozen? ⟨w.heap.size + 1, 3, none⟩ = false := by rw [frozen?_alloc_cells, frozen?_alloc_cells]; unfold World.frozen?; simp
  exact ⟨BB, p0_0, p0_1, p0_2, p0_3, p1_0, p1_1, p1_2, p1_3, f0_0, f0_1, f0_2, f0_3, f1_0, f1_1, f1_2, f1_3⟩

/-- Component i; the vector's component k with component i replaced. -/
def compv (x0 x1 x2 x3 i : Int) : Int := if i = 0 then x0 else if i = 1 then x1 else if i = 2 then x2 else if i = 3 then x3 else 0
def withv (i x k y : Int) : Int := if i = k then x else y

theorem five (i : Int) : (i < 0 ∨ 3 < i) ∨ i = 0 ∨ i = 1 ∨ i = 2 ∨ i = 3 := by omega

theorem idx0 (x0 x1 x2 x3 : Int) (w : World) : (Instr.index 29 (.agg #[.int .i64 x0, .int .i64 x1, .int .i64 x2, .int .i64 x3]) (.int .i64 0)).run Try.prog w = .ok (.int .i64 x0) w := by
  simp [Instr.index, run_underlying Try.underlying29, asIntOf, part, go_sem]

theorem idx1 (x0 x1 x2 x3 : Int) (w : World) : (Instr.index 29 (.agg #[.int .i64 x0, .int .i64 x1, .int .i64 x2, .int .i64 x3]) (.int .i64 1)).run Try.prog w = .ok (.int .i64 x1) w := by
  simp [Instr.index, run_underlying Try.underlying29, asIntOf, part, go_sem]

theorem idx2 (x0 x1 x2 x3 : Int) (w : World) : (Instr.index 29 (.agg #[.int .i64 x0, .int .i64 x1, .int .i64 x2, .int .i64 x3]) (.int .i64 2)).run Try.prog w = .ok (.int .i64 x2) w := by
  simp [Instr.index, run_underlying Try.underlying29, asIntOf, part, go_sem]

theorem idx3 (x0 x1 x2 x3 : Int) (w : World) : (Instr.index 29 (.agg #[.int .i64 x0, .int .i64 x1, .int .i64 x2, .int .i64 x3]) (.int .i64 3)).run Try.prog w = .ok (.int .i64 x3) w := by
  simp [Instr.index, run_underlying Try.underlying29, asIntOf, part, go_sem]

/-- A list of four numbers in new memory. -/
def LIs (x0 x1 x2 x3 : Int) (w : World) (e : Ending) (w' : World) : Prop :=
  ∃ b, e = .returned (.slice (some ⟨b, 0, none⟩) 4 4) ∧ w'.cell? ⟨b, 0, none⟩ = some (.int .i64 x0) ∧ w'.cell? ⟨b, 1, none⟩ = some (.int .i64 x1) ∧ w'.cell? ⟨b, 2, none⟩ = some (.int .i64 x2) ∧ w'.cell? ⟨b, 3, none⟩ = some (.int .i64 x3) ∧ Below w.heap.size w w'

/-- The dot product. -/
def dotv (x0 x1 x2 x3 y0 y1 y2 y3 : Int) : Int := sat (rda (sat x0 * sat y0 + sat x1 * sat y1 + sat x2 * sat y2 + sat x3 * sat y3) 65536)

theorem argsff (w : World) (a0 a1 a2 a3 b0 b1 b2 b3 : Value) (t : TypeId) :
    Below w.heap.size w ((w.alloc (.cells #[a0, a1, a2, a3] t)).alloc (.cells #[b0, b1, b2, b3] t)) ∧
    ((w.alloc (.cells #[a0, a1, a2, a3] t)).alloc (.cells #[b0, b1, b2, b3] t)).cell? ⟨w.heap.size, 0, none⟩ = some (a0) ∧
    ((w.alloc (.cells #[a0, a1, a2, a3] t)).alloc (.cells #[b0, b1, b2, b3] t)).cell? ⟨w.heap.size, 1, none⟩ = some (a1) ∧
    ((w.alloc (.cells #[a0, a1, a2, a3] t)).alloc (.cells #[b0, b1, b2, b3] t)).cell? ⟨w.heap.size, 2, none⟩ = some (a2) ∧
    ((w.alloc (.cells #[a0, a1, a2, a3] t)).alloc (.cells #[b0, b1, b2, b3] t)).cell? ⟨w.heap.size, 3, none⟩ = some (a3) ∧
    ((w.alloc (.cells #[a0, a1, a2, a3] t)).alloc (.cells #[b0, b1, b2, b3] t)).cell? ⟨w.heap.size + 1, 0, none⟩ = some (b0) ∧
    ((w.alloc (.cells #[a0, a1, a2, a3] t)).alloc (.cells #[b0, b1, b2, b3] t)).cell? ⟨w.heap.size + 1, 1, none⟩ = some (b1) ∧
    ((w.alloc (.cells #[a0, a1, a2, a3] t)).alloc (.cells #[b0, b1, b2, b3] t)).cell? ⟨w.heap.size + 1, 2, none⟩ = some (b2) ∧
    ((w.alloc (.cells #[a0, a1, a2, a3] t)).alloc (.cells #[b0, b1, b2, b3] t)).cell? ⟨w.heap.size + 1, 3, none⟩ = some (b3) := by
  have BB : Below w.heap.size w w := Below.refl _ _
  have z0 : w.heap.size = w.heap.size := by simp
  obtain ⟨B, BB⟩ := box_on BB #[a0, a1, a2, a3] t
  have p0_0 := box_cell w #[a0, a1, a2, a3] t 0 _ rfl
  have p0_1 := box_cell w #[a0, a1, a2, a3] t 1 _ rfl
  have p0_2 := box_cell w #[a0, a1, a2, a3] t 2 _ rfl
  have p0_3 := box_cell w #[a0, a1, a2, a3] t 3 _ rfl
  rw [z0] at p0_0 p0_1 p0_2 p0_3
  have z1 : (w.alloc (.cells #[a0, a1, a2, a3] t)).heap.size = w.heap.size + 1 := by simp
  obtain ⟨B, BB⟩ := box_on BB #[b0, b1, b2, b3] t
  replace p0_0 := cell_below B p0_0
  replace p0_1 := cell_below B p0_1
  replace p0_2 := cell_below B p0_2
  replace p0_3 := cell_below B p0_3
  have p1_0 := box_cell (w.alloc (.cells #[a0, a1, a2, a3] t)) #[b0, b1, b2, b3] t 0 _ rfl
  have p1_1 := box_cell (w.alloc (.cells #[a0, a1, a2, a3] t)) #[b0, b1, b2, b3] t 1 _ rfl
  have p1_2 := box_cell (w.alloc (.cells #[a0, a1, a2, a3] t)) #[b0, b1, b2, b3] t 2 _ rfl
  have p1_3 := box_cell (w.alloc (.cells #[a0, a1, a2, a3] t)) #[b0, b1, b2, b3] t 3 _ rfl
  rw [z1] at p1_0 p1_1 p1_2 p1_3
  exact ⟨BB, p0_0, p0_1, p0_2, p0_3, p1_0, p1_1, p1_2, p1_3⟩

theorem args2f (w : World) (a0 a1 a2 a3 b0 b1 b2 b3 : Value) (t : TypeId) :
    ((w.alloc (.cells #[a0, a1, a2, a3] t)).alloc (.cells #[b0, b1, b2, b3] t)).frozen? ⟨w.heap.size, 0, none⟩ = false ∧ ((w.alloc (.cells #[a0, a1, a2, a3] t)).alloc (.cells #[b0, b1, b2, b3] t)).frozen? ⟨w.heap.size, 1, none⟩ = false ∧
    ((w.alloc (.cells #[a0, a1, a2, a3] t)).alloc (.cells #[b0, b1, b2, b3] t)).frozen? ⟨w.heap.size, 2, none⟩ = false ∧ ((w.alloc (.cells #[a0, a1, a2, a3] t)).alloc (.cells #[b0, b1, b2, b3] t)).frozen? ⟨w.heap.size, 3, none⟩ = false ∧
    ((w.alloc (.cells #[a0, a1, a2, a3] t)).alloc (.cells #[b0, b1, b2, b3] t)).frozen? ⟨w.heap.size + 1, 0, none⟩ = false ∧ ((w.alloc (.cells #[a0, a1, a2, a3] t)).alloc (.cells #[b0, b1, b2, b3] t)).frozen? ⟨w.heap.size + 1, 1, none⟩ = false ∧
    ((w.alloc (.cells #[a0, a1, a2, a3] t)).alloc (.cells #[b0, b1, b2, b3] t)).frozen? ⟨w.heap.size + 1, 2, none⟩ = false ∧ ((w.alloc (.cells #[a0, a1, a2, a3] t)).alloc (.cells #[b0, b1, b2, b3] t)).frozen? ⟨w.heap.size + 1, 3, none⟩ = false := by
  have fz : ∀ i, ((w.alloc (.cells #[a0, a1, a2, a3] t)).alloc (.cells #[b0, b1, b2, b3] t)).frozen? ⟨w.heap.size, i, none⟩ = false := fun i => by
    rw [frozen?_alloc_cells, frozen?_alloc_cells]; unfold World.frozen?; simp
  have gz : ∀ i, ((w.alloc (.cells #[a0, a1, a2, a3] t)).alloc (.cells #[b0, b1, b2, b3] t)).frozen? ⟨w.heap.size + 1, i, none⟩ = false := fun i => by
    rw [frozen?_alloc_cells, frozen?_alloc_cells]; unfold World.frozen?; simp
  exact ⟨fz 0, fz 1, fz 2, fz 3, gz 0, gz 1, gz 2, gz 3⟩

end Go.Proofs.Ytoipmldbjciinaa

/- What the calls of the reference of package vec return: the functions over one or two vectors. -/
namespace Go.Proofs.Ytoipmldbjciinaa
open Go.RowKit Go.Sort

end Go.Proofs.Ytoipmldbjciinaa

/- What Dot of the reference returns. -/
namespace Go.Proofs.Ytoipmldbjciinaa
open Go.RowKit Go.Sort

theorem below_drew {w W : World} (h : Below w.heap.size w W) : Below w.heap.size w W.drew := ⟨h.os, h.tape, h.output, h.size, h.block⟩

/-- From here on of the world only S is known. -/
theorem letter {P : Program} {c : Code} {Q : Exit → Act → World → Prop} {a : Act} {w : World} {S : World → Prop} (h : ∀ W, S W → c.wp P Q a W) (hs : S w) : c.wp P Q a w := h w hs

end Go.Proofs.Ytoipmldbjciinaa
