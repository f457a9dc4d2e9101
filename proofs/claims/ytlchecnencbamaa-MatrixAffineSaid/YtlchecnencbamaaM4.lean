/- What the functions that make matrices return: ofRows, Identity, ScaleBy, Translate, of the code and of the reference; limited vectors and matrices; the example. -/
import Derived.Test.YtlchecnencbamaaM3
namespace Go.Proofs.Ytlchecnencbamaa
open Go.RowKit Go.Sort

/-- The matrix of sixteen numbers. -/
def ofl (a0 a1 a2 a3 a4 a5 a6 a7 a8 a9 a10 a11 a12 a13 a14 a15 : Int) : Nat → Int
  | 0 => a0
  | 1 => a1
  | 2 => a2
  | 3 => a3
  | 4 => a4
  | 5 => a5
  | 6 => a6
  | 7 => a7
  | 8 => a8
  | 9 => a9
  | 10 => a10
  | 11 => a11
  | 12 => a12
  | 13 => a13
  | 14 => a14
  | 15 => a15
  | _ => 0
def idm : Nat → Int := ofl 65536 0 0 0 0 65536 0 0 0 0 65536 0 0 0 0 65536
def trm (x y z : Int) : Nat → Int := ofl 65536 0 0 (sat x) 0 65536 0 (sat y) 0 0 65536 (sat z) 0 0 0 65536
def scm (x y z : Int) : Nat → Int := ofl (sat x) 0 0 0 0 (sat y) 0 0 0 0 (sat z) 0 0 0 0 65536

theorem argsO (w : World) (x0 x1 x2 x3 : Int) (y0 y1 y2 y3 : Int) (z0 z1 z2 z3 : Int) (t0 t1 t2 t3 : Int) (u v : TypeId) :
    Below w.heap.size w (((((w.alloc (.cells #[.int .i64 x0, .int .i64 x1, .int .i64 x2, .int .i64 x3] u)).alloc (.cells #[.int .i64 y0, .int .i64 y1, .int .i64 y2, .int .i64 y3] u)).alloc (.cells #[.int .i64 z0, .int .i64 z1, .int .i64 z2, .int .i64 z3] u)).alloc (.cells #[.int .i64 t0, .int .i64 t1, .int .i64 t2, .int .i64 t3] u)).alloc (.cells #[.int .i64 0, .int .i64 0, .int .i64 0, .int .i64 0, .int .i64 0, .int .i64 0, .int .i64 0, .int .i64 0, .int .i64 0, .int .i64 0, .int .i64 0, .int .i64 0, .int .i64 0, .int .i64 0, .int .i64 0, .int .i64 0] v)) ∧
    (((((w.alloc (.cells #[.int .i64 x0, .int .i64 x1, .int .i64 x2, .int .i64 x3] u)).alloc (.cells #[.int .i64 y0, .int .i64 y1, .int .i64 y2, .int .i64 y3] u)).alloc (.cells #[.int .i64 z0, .int .i64 z1, .int .i64 z2, .int .i64 z3] u)).alloc (.cells #[.int .i64 t0, .int .i64 t1, .int .i64 t2, .int .i64 t3] u)).alloc (.cells #[.int .i64 0, .int .i64 0, .int .i64 0, .int .i64 0, .int .i64 0, .int .i64 0, .int .i64 0, .int .i64 0, .int .i64 0, .int .i64 0, .int .i64 0, .int .i64 0, .int .i64 0, .int .i64 0, .int .i64 0, .int .i64 0] v)).cell? ⟨w.heap.size, 0, none⟩ = some (.int .i64 x0) ∧
    (((((w.alloc (.cells #[.int .i64 x0, .int .i64 x1, .int .i64 x2, .int .i64 x3] u)).alloc (.cells #[.int .i64 y0, .int .i64 y1, .int .i64 y2, .int .i64 y3] u)).alloc (.cells #[.int .i64 z0, .int .i64 z1, .int .i64 z2, .int .i64 z3] u)).alloc (.cells #[.int .i64 t0, .int .i64 t1, .int .i64 t2, .int .i64 t3] u)).alloc (.cells #[.int .i64 0, .int .i64 0, .int .i64 0, .int .i64 0, .int .i64 0, .int .i64 0, .int .i64 0, .int .i64 0, .int .i64 0, .int .i64 0, .int .i64 0, .int .i64 0, .int .i64 0, .int .i64 0, .int .i64 0, .int .i64 0] v)).cell? ⟨w.heap.size, 1, none⟩ = some (.int .i64 x1) ∧
    (((((w.alloc (.cells #[.int .i64 x0, .int .i64 x1, .int .i64 x2, .int .i64 x3] u)).alloc (.cells #[.int .i64 y0, .int .i64 y1, .int .i64 y2, .int .i64 y3] u)).alloc (.cells #[.int .i64 z0, .int .i64 z1, .int .i64 z2, .int .i64 z3] u)).alloc (.cells #[.int .i64 t0, .int .i64 t1, .int .i64 t2, .int .i64 t3] u)).alloc (.cells #[.int .i64 0, .int .i64 0, .int .i64 0, .int .i64 0, .int .i64 0, .int .i64 0, .int .i64 0, .int .i64 0, .int .i64 0, .int .i64 0, .int .i64 0, .int .i64 0, .int .i64 0, .int .i64 0, .int .i64 0, .int .i64 0] v)).cell? ⟨w.heap.size, 2, none⟩ = some (.int .i64 x2) ∧
    (((((w.alloc (.cells #[.int .i64 x0, .int .i64 x1, .int .i64 x2, .int .i64 x3] u)).alloc (.cells #[.int .i64 y0, .int .i64 y1, .int .i64 y2, .int .i64 y3] u)).alloc (.cells #[.int .i64 z0, .int .i64 z1, .int .i64 z2, .int .i64 z3] u)).alloc (.cells #[.int .i64 t0, .int .i64 t1, .int .i64 t2, .int .i64 t3] u)).alloc (.cells #[.int .i64 0, .int .i64 0, .int .i64 0, .int .i64 0, .int .i64 0, .int .i64 0, .int .i64 0, .int .i64 0, .int .i64 0, .int .i64 0, .int .i64 0, .int .i64 0, .int .i64 0, .int .i64 0, .int .i64 0, .int .i64 0] v)).cell? ⟨w.heap.size, 3, none⟩ = some (.int .i64 x3) ∧
    (((((w.alloc (.cells #[.int .i64 x0, .int .i64 x1, .int .i64 x2, .int .i64 x3] u)).alloc (.cells #[.int .i64 y0, .int .i64 y1, .int .i64 y2, .int .i64 y3] u)).alloc (.cells #[.int .i64 z0, .int .i64 z1, .int .i64 z2, .int .i64 z3] u)).alloc (.cells #[.int .i64 t0, .int .i64 t1, .int .i64 t2, .int .i64 t3] u)).alloc (.cells #[.int .i64 0, .int .i64 0, .int .i64 0, .int .i64 0, .int .i64 0, .int .i64 0, .int .i64 0, .int .i64 0, .int .i64 0, .int .i64 0, .int .i64 0, .int .i64 0, .int .i64 0, .int .i64 0, .int .i64 0, .int .i64 0] v)).cell? ⟨w.heap.size + 1, 0, none⟩ = some (.int .i64 y0) ∧
    (((((w.alloc (.cells #[.int .i64 x0, .int .i64 x1, .int .i64 x2, .int .i64 x3] u)).alloc (.cells #[.int .i64 y0, .int .i64 y1, .int .i64 y2, .int .i64 y3] u)).alloc (.cells #[.int .i64 z0, .int .i64 z1, .int .i64 z2, .int .i64 z3] u)).alloc (.cells #[.int .i64 t0, .int .i64 t1, .int .i64 t2, .int .i64 t3] u)).alloc (.cells #[.int .i64 0, .int .i64 0, .int .i64 0, .int .i64 0, .int .i64 0, .int .i64 0, .int .i64 0, .int .i64 0, .int .i64 0, .int .i64 0, .int .i64 0, .int .i64 0, .int .i64 0, .int .i64 0, .int .i64 0, .int .i64 0] v)).cell? ⟨w.heap.size + 1, 1, none⟩ = some (.int .i64 y1) ∧
    (((((w.alloc (.cells #[.int .i64 x0, .int .i64 x1, .int .i64 x2, .int .i64 x3] u)).alloc (.cells #[.int .i64 y0, .int .i64 y1, .int .i64 y2, .int .i64 y3] u)).alloc (.cells #[.int .i64 z0, .int .i64 z1, .int .i64 z2, .int .i64 z3] u)).alloc (.cells #[.int .i64 t0, .int .i64 t1, .int .i64 t2, .int .i64 t3] u)).alloc (.cells #[.int .i64 0, .int .i64 0, .int .i64 0, .int .i64 0, .int .i64 0, .int .i64 0, .int .i64 0, .int .i64 0, .int .i64 0, .int .i64 0, .int .i64 0, .int .i64 0, .int .i64 0, .int .i64 0, .int .i64 0, .int .i64 0] v)).cell? ⟨w.heap.size + 1, 2, none⟩ = some (.int .i64 y2) ∧
    (((((w.alloc (.cells #[.int .i64 x0, .int .i64 x1, .int .i64 x2, .int .i64 x3] u)).alloc (.cells #[.int .i64 y0, .int .i64 y1, .int .i64 y2, .int .i64 y3] u)).alloc (.cells #[.int .i64 z0, .int .i64 z1, .int .i64 z2, .int .i64 z3] u)).alloc (.cells #[.int .i64 t0, .int .i64 t1, .int .i64 t2, .int .i64 t3] u)).alloc (.cells #[.int .i64 0, .int .i64 0, .int .i64 0, .int .i64 0, .int .i64 0, .int .i64 0, .int .i64 0, .int .i64 0, .int .i64 0, .int .i64 0, .int .i64 0, .int .i64 0, .int .i64 0, .int .i64 0, .int .i64 0, .int .i64 0] v)).cell? ⟨w.heap.size + 1, 3, none⟩ = some (.int .i64 y3) ∧
    (((((w.alloc (.cells #[.int .i64 x0, .int .i64 x1, .int .i64 x2, .int .i64 x3] u)).alloc (.cells #[.int .i64 y0, .int .i64 y1, .int .i64 y2, .int .i64 y3] u)).alloc (.cells #[.int .i64 z0, .int .i64 z1, .int .i64 z2, .int .i64 z3] u)).alloc (.cells #[.int .i64 t0, .int .i64 t1, .int .i64 t2, .int .i64 t3] u)).alloc (.cells #[.int .i64 0, .int .i64 0, .int .i64 0, .int .i64 0, .int .i64 0, .int .i64 0, .int .i64 0, .int .i64 0, .int .i64 0, .int .i64 0, .int .i64 0, .int .i64 0, .int .i64 0, .int .i64 0, .int .i64 0, .int .i64 0] v)).cell? ⟨w.heap.size + 2, 0, none⟩ = some (.int .i64 z0) ∧
    (((((w.alloc (.cells #[.int .i64 x0, .int .i64 x1, .int .i64 x2, .int .i64 x3] u)).alloc (.cells #[.int .i64 y0, .int .i64 y1, .int .i64 y2, .int .i64 y3] u)).alloc (.cells #[.int .i64 z0, .int .i64 z1, .int .i64 z2, .int .i64 z3] u)).alloc (.cells #[.int .i64 t0, .int .i64 t1, .int .i64 t2, .int .i64 t3] u)).alloc (.cells #[.int .i64 0, .int .i64 0, .int .i64 0, .int .i64 0, .int .i64 0, .int .i64 0, .int .i64 0, .int .i64 0, .int .i64 0, .int .i64 0, .int .i64 0, .int .i64 0, .int .i64 0, .int .i64 0, .int .i64 0, .int .i64 0] v)).cell? ⟨w.heap.size + 2, 1, none⟩ = some (.int .i64 z1) ∧
    (((((w.alloc (.cells #[.int .i64 x0, .int .i64 x1, .int .i64 x2, .int .i64 x3] u)).alloc (.cells #[.int .i64 y0, .int .i64 y1, .int .i64 y2, .int .i64 y3] u)).alloc (.cells #[.int .i64 z0, .int .i64 z1, .int .i64 z2, .int .i64 z3] u)).alloc (.cells #[.int .i64 t0, .int .i64 t1, .int .i64 t2, .int .i64 t3] u)).alloc (.cells #[.int .i64 0, .int .i64 0, .int .i64 0, .int .i64 0, .int .i64 0, .int .i64 0, .int .i64 0, .int .i64 0, .int .i64 0, .int .i64 0, .int .i64 0, .int .i64 0, .int .i64 0, .int .i64 0, .int .i64 0, .int .i64 0] v)).cell? ⟨w.heap.size + 2, 2, none⟩ = some (.int .i64 z2) ∧
    (((((w.alloc (.cells #[.int .i64 x0, .int .i64 x1, .int .i64 x2, .int .i64 x3] u)).alloc (.cells #[.int .i64 y0, .int .i64 y1, .int .i64 y2, .int .i64 y3] u)).alloc (.cells #[.int .i64 z0, .int .i64 z1, .int .i64 z2, .int .i64 z3] u)).alloc (.cells #[.int .i64 t0, .int .i64 t1, .int .i64 t2, .int .i64 t3] u)).alloc (.cells #[.int .i64 0, .int .i64 0, .int .i64 0, .int .i64 0, .int .i64 0, .int .i64 0, .int .i64 0, .int .i64 0, .int .i64 0, .int .i64 0, .int .i64 0, .int .i64 0, .int .i64 0, .int .i64 0, .int .i64 0, .int .i64 0] v)).cell? ⟨w.heap.size + 2, 3, none⟩ = some (.int .i64 z3) ∧
    (((((w.alloc (.cells #[.int .i64 x0, .int .i64 x1, .int .i64 x2, .int .i64 x3] u)).alloc (.cells #[.int .i64 y0, .int .i64 y1, .int .i64 y2, .int .i64 y3] u)).alloc (.cells #[.int .i64 z0, .int .i64 z1, .int .i64 z2, .int .i64 z3] u)).alloc (.cells #[.int .i64 t0, .int .i64 t1, .int .i64 t2, .int .i64 t3] u)).alloc (.cells #[.int .i64 0, .int .i64 0, .int .i64 0, .int .i64 0, .int .i64 0, .int .i64 0, .int .i64 0, .int .i64 0, .int .i64 0, .int .i64 0, .int .i64 0, .int .i64 0, .int .i64 0, .int .i64 0, .int .i64 0, .int .i64 0] v)).cell? ⟨w.heap.size + 3, 0, none⟩ = some (.int .i64 t0) ∧
    (((((w.alloc (.cells #[.int .i64 x0, .int .i64 x1, .int .i64 x2, .int .i64 x3] u)).alloc (.cells #[.int .i64 y0, .int .i64 y1, .int .i64 y2, .int .i64 y3] u)).alloc (.cells #[.int .i64 z0, .int .i64 z1, .int .i64 z2, .int .i64 z3] u)).alloc (.cells #[.int .i64 t0, .int .i64 t1, .int .i64 t2, .int .i64 t3] u)).alloc (.cells #[.int .i64 0, .int .i64 0, .int .i64 0, .int .i64 0, .int .i64 0, .int .i64 0, .int .i64 0, .int .i64 0, .int .i64 0, .int .i64 0, .int .i64 0, .int .i64 0, .int .i64 0, .int .i64 0, .int .i64 0, .int .i64 0] v)).cell? ⟨w.heap.size + 3, 1, none⟩ = some (.int .i64 t1) ∧
    (((((w.alloc (.cells #[.int .i64 x0, .int .i64 x1, .int .i64 x2, .int .i64 x3] u)).alloc (.cells #[.int .i64 y0, .int .i64 y1, .int .i64 y2, .int .i64 y3] u)).alloc (.cells #[.int .i64 z0, .int .i64 z1, .int .i64 z2, .int .i64 z3] u)).alloc (.cells #[.int .i64 t0, .int .i64 t1, .int .i64 t2, .int .i64 t3] u)).alloc (.cells #[.int .i64 0, .int .i64 0, .int .i64 0, .int .i64 0, .int .i64 0, .int .i64 0, .int .i64 0, .int .i64 0, .int .i64 0, .int .i64 0, .int .i64 0, .int .i64 0, .int .i64 0, .int .i64 0, .int .i64 0, .int .i64 0] v)).cell? ⟨w.heap.size + 3, 2, none⟩ = some (.int .i64 t2) ∧
    (((((w.alloc (.cells #[.int .i64 x0, .int .i64 x1, .int .i64 x2, .int .i64 x3] u)).alloc (.cells #[.int .i64 y0, .int .i64 y1, .int .i64 y2, .int .i64 y3] u)).alloc (.cells #[.int .i64 z0, .int .i64 z1, .int .i64 z2, .int .i64 z3] u)).alloc (.cells #[.int .i64 t0, .int .i64 t1, .int .i64 t2, .int .i64 t3] u)).alloc (.cells #[.int .i64 0, .int .i64 0, .int .i64 0, .int .i64 0, .int .i64 0, .int .i64 0, .int .i64 0, .int .i64 0, .int .i64 0, .int .i64 0, .int .i64 0, .int .i64 0, .int .i64 0, .int .i64 0, .int .i64 0, .int .i64 0] v)).cell? ⟨w.heap.size + 3, 3, none⟩ = some (.int .i64 t3) ∧
    (∀ i, i < 16 → (((((w.alloc (.cells #[.int .i64 x0, .int .i64 x1, .int .i64 x2, .int .i64 x3] u)).alloc (.cells #[.int .i64 y0, .int .i64 y1, .int .i64 y2, .int .i64 y3] u)).alloc (.cells #[.int .i64 z0, .int .i64 z1, .int .i64 z2, .int .i64 z3] u)).alloc (.cells #[.int .i64 t0, .int .i64 t1, .int .i64 t2, .int .i64 t3] u)).alloc (.cells #[.int .i64 0, .int .i64 0, .int .i64 0, .int .i64 0, .int .i64 0, .int .i64 0, .int .i64 0, .int .i64 0, .int .i64 0, .int .i64 0, .int .i64 0, .int .i64 0, .int .i64 0, .int .i64 0, .int .i64 0, .int .i64 0] v)).cell? ⟨w.heap.size + 4, i, none⟩ = some (.int .i64 0)) ∧
    (∀ i, i < 16 → (((((w.alloc (.cells #[.int .i64 x0, .int .i64 x1, .int .i64 x2, .int .i64 x3] u)).alloc (.cells #[.int .i64 y0, .int .i64 y1, .int .i64 y2, .int .i64 y3] u)).alloc (.cells #[.int .i64 z0, .int .i64 z1, .int .i64 z2, .int .i64 z3] u)).alloc (.cells #[.int .i64 t0, .int .i64 t1, .int .i64 t2, .int .i64 t3] u)).alloc (.cells #[.int .i64 0, .int .i64 0, .int .i64 0, .int .i64 0, .int .i64 0, .int .i64 0, .int .i64 0, .int .i64 0, .int .i64 0, .int .i64 0, .int .i64 0, .int .i64 0, .int .i64 0, .int .i64 0, .int .i64 0, .int .i64 0] v)).frozen? ⟨w.heap.size + 4, i, none⟩ = false) := by
  have BB : Below w.heap.size w w := Below.refl _ _
  have hsz0 : w.heap.size = w.heap.size := by simp
  obtain ⟨B, BB⟩ := box_on BB #[.int .i64 x0, .int .i64 x1, .int .i64 x2, .int .i64 x3] u
  have p0_0 := box_cell w #[.int .i64 x0, .int .i64 x1, .int .i64 x2, .int .i64 x3] u 0 _ rfl
  have p0_1 := box_cell w #[.int .i64 x0, .int .i64 x1, .int .i64 x2, .int .i64 x3] u 1 _ rfl
  have p0_2 := box_cell w #[.int .i64 x0, .int .i64 x1, .int .i64 x2, .int .i64 x3] u 2 _ rfl
  have p0_3 := box_cell w #[.int .i64 x0, .int .i64 x1, .int .i64 x2, .int .i64 x3] u 3 _ rfl
  have f0_0 := box_frozen w #[.int .i64 x0, .int .i64 x1, .int .i64 x2, .int .i64 x3] u 0
  have f0_1 := box_frozen w #[.int .i64 x0, .int .i64 x1, .int .i64 x2, .int .i64 x3] u 1
  have f0_2 := box_frozen w #[.int .i64 x0, .int .i64 x1, .int .i64 x2, .int .i64 x3] u 2
  have f0_3 := box_frozen w #[.int .i64 x0, .int .i64 x1, .int .i64 x2, .int .i64 x3] u 3
  rw [hsz0] at p0_0 p0_1 p0_2 p0_3 f0_0 f0_1 f0_2 f0_3
  have hsz1 : (w.alloc (.cells #[.int .i64 x0, .int .i64 x1, .int .i64 x2, .int .i64 x3] u)).heap.size = w.heap.size + 1 := by simp
  obtain ⟨B, BB⟩ := box_on BB #[.int .i64 y0, .int .i64 y1, .int .i64 y2, .int .i64 y3] u
  replace f0_0 := frozen_below B p0_0 f0_0
  replace f0_1 := frozen_below B p0_1 f0_1
  replace f0_2 := frozen_below B p0_2 f0_2
  replace f0_3 := frozen_below B p0_3 f0_3
  replace p0_0 := cell_below B p0_0
  replace p0_1 := cell_below B p0_1
  replace p0_2 := cell_below B p0_2
  replace p0_3 := cell_below B p0_3
  have p1_0 := box_cell (w.alloc (.cells #[.int .i64 x0, .int .i64 x1, .int .i64 x2, .int .i64 x3] u)) #[.int .i64 y0, .int .i64 y1, .int .i64 y2, .int .i64 y3] u 0 _ rfl
  have p1_1 := box_cell (w.alloc (.cells #[.int .i64 x0, .int .i64 x1, .int .i64 x2, .int .i64 x3] u)) #[.int .i64 y0, .int .i64 y1, .int .i64 y2, .int .i64 y3] u 1 _ rfl
  have p1_2 := box_cell (w.alloc (.cells #[.int .i64 x0, .int .i64 x1, .int .i64 x2, .int .i64 x3] u)) #[.int .i64 y0, .int .i64 y1, .int .i64 y2, .int .i64 y3] u 2 _ rfl
  have p1_3 := box_cell (w.alloc (.cells #[.int .i64 x0, .int .i64 x1, .int .i64 x2, .int .i64 x3] u)) #[.int .i64 y0, .int .i64 y1, .int .i64 y2, .int .i64 y3] u 3 _ rfl
  have f1_0 := box_frozen (w.alloc (.cells #[.int .i64 x0, .int .i64 x1, .int .i64 x2, .int .i64 x3] u)) #[.int .i64 y0, .int .i64 y1, .int .i64 y2, .int .i64 y3] u 0
  have f1_1 := box_frozen (w.alloc (.cells #[.int .i64 x0, .int .i64 x1, .int .i64 x2, .int .i64 x3] u)) #[.int .i64 y0, .int .i64 y1, .int .i64 y2, .int .i64 y3] u 1
  have f1_2 := box_frozen (w.alloc (.cells #[.int .i64 x0, .int .i64 x1, .int .i64 x2, .int .i64 x3] u)) #[.int .i64 y0, .int .i64 y1, .int .i64 y2, .int .i64 y3] u 2
  have f1_3 := box_frozen (w.alloc (.cells #[.int .i64 x0, .int .i64 x1, .int .i64 x2, .int .i64 x3] u)) #[.int .i64 y0, .int .i64 y1, .int .i64 y2, .int .i64 y3] u 3
  rw [hsz1] at p1_0 p1_1 p1_2 p1_3 f1_0 f1_1 f1_2 f1_3
  have hsz2 : ((w.alloc (.cells #[.int .i64 x0, .int .i64 x1, .int .i64 x2, .int .i64 x3] u)).alloc (.cells #[.int .i64 y0, .int .i64 y1, .int .i64 y2, .int .i64 y3] u)).heap.size = w.heap.size + 2 := by simp
  obtain ⟨B, BB⟩ := box_on BB #[.int .i64 z0, .int .i64 z1, .int .i64 z2, .int .i64 z3] u
  replace f0_0 := frozen_below B p0_0 f0_0
  replace f0_1 := frozen_below B p0_1 f0_1
  replace f0_2 := frozen_below B p0_2 f0_2
  replace f0_3 := frozen_below B p0_3 f0_3
  replace f1_0 := frozen_below B p1_0 f1_0
  replace f1_1 := frozen_below B p1_1 f1_1
  replace f1_2 := frozen_below B p1_2 f1_2
  replace f1_3 := frozen_below B p1_3 f1_3
  replace p0_0 := cell_below B p0_0
  replace p0_1 := cell_below B p0_1
  replace p0_2 := cell_below B p0_2
  replace p0_3 := cell_below B p0_3
  replace p1_0 := cell_below B p1_0
  replace p1_1 := cell_below B p1_1
  replace p1_2 := cell_below B p1_2
  replace p1_3 := cell_below B p1_3
  have p2_0 := box_cell ((w.alloc (.cells #[.int .i64 x0, .int .i64 x1, .int .i64 x2, .int .i64 x3] u)).alloc (.cells #[.int .i64 y0, .int .i64 y1, .int .i64 y2, .int .i64 y3] u)) #[.int .i64 z0, .int .i64 z1, .int .i64 z2, .int .i64 z3] u 0 _ rfl
  have p2_1 := box_cell ((w.alloc (.cells #[.int .i64 x0, .int .i64 x1, .int .i64 x2, .int .i64 x3] u)).alloc (.cells #[.int .i64 y0, .int .i64 y1, .int .i64 y2, .int .i64 y3] u)) #[.int .i64 z0, .int .i64 z1, .int .i64 z2, .int .i64 z3] u 1 _ rfl
  have p2_2 := box_cell ((w.alloc (.cells #[.int .i64 x0, .int .i64 x1, .int .i64 x2, .int .i64 x3] u)).alloc (.cells #[.int .i64 y0, .int .i64 y1, .int .i64 y2, .int .i64 y3] u)) #[.int .i64 z0, .int .i64 z1, .int .i64 z2, .int .i64 z3] u 2 _ rfl
  have p2_3 := box_cell ((w.alloc (.cells #[.int .i64 x0, .int .i64 x1, .int .i64 x2, .int .i64 x3] u)).alloc (.cells #[.int .i64 y0, .int .i64 y1, .int .i64 y2, .int .i64 y3] u)) #[.int .i64 z0, .int .i64 z1, .int .i64 z2, .int .i64 z3] u 3 _ rfl
  have f2_0 := box_frozen ((w.alloc (.cells #[.int .i64 x0, .int .i64 x1, .int .i64 x2, .int .i64 x3] u)).alloc (.cells #[.int .i64 y0, .int .i64 y1, .int .i64 y2, .int .i64 y3] u)) #[.int .i64 z0, .int .i64 z1, .int .i64 z2, .int .i64 z3] u 0
  have f2_1 := box_frozen ((w.alloc (.cells #[.int .i64 x0, .int .i64 x1, .int .i64 x2, .int .i64 x3] u)).alloc (.cells #[.int .i64 y0, .int .i64 y1, .int .i64 y2, .int .i64 y3] u)) #[.int .i64 z0, .int .i64 z1, .int .i64 z2, .int .i64 z3] u 1
  have f2_2 := box_frozen ((w.alloc (.cells #[.int .i64 x0, .int .i64 x1, .int .i64 x2, .int .i64 x3] u)).alloc (.cells #[.int .i64 y0, .int .i64 y1, .int .i64 y2, .int .i64 y3] u)) #[.int .i64 z0, .int .i64 z1, .int .i64 z2, .int .i64 z3] u 2
  have f2_3 := box_frozen ((w.alloc (.cells #[.int .i64 x0, .int .i64 x1, .int .i64 x2, .int .i64 x3] u)).alloc (.cells #[.int .i64 y0, .int .i64 y1, .int .i64 y2, .int .i64 y3] u)) #[.int .i64 z0, .int .i64 z1, .int .i64 z2, .int .i64 z3] u 3
  rw [hsz2] at p2_0 p2_1 p2_2 p2_3 f2_0 f2_1 f2_2 f2_3
  have hsz3 : (((w.alloc (.cells #[.int .i64 x0, .int .i64 x1, .int .i64 x2, .int .i64 x3] u)).alloc (.cells #[.int .i64 y0, .int .i64 y1, .int .i64 y2, .int .i64 y3] u)).alloc (.cells #[.int .i64 z0, .int .i64 z1, .int .i64 z2, .int .i64 z3] u)).heap.size = w.heap.size + 3 := by simp
  obtain ⟨B, BB⟩ := box_on BB #[.int .i64 t0, .int .i64 t1, .int .i64 t2, .int .i64 t3] u
  replace f0_0 := frozen_below B p0_0 f0_0
  replace f0_1 := frozen_below B p0_1 f0_1
  replace f0_2 := frozen_below B p0_2 f0_2
  replace f0_3 := frozen_below B p0_3 f0_3
  replace f1_0 := frozen_below B p1_0 f1_0
  replace f1_1 := frozen_below B p1_1 f1_1
  replace f1_2 := frozen_below B p1_2 f1_2
  replace f1_3 := frozen_below B p1_3 f1_3
  replace f2_0 := frozen_below B p2_0 f2_0
  replace f2_1 := frozen_below B p2_1 f2_1
  replace f2_2 := frozen_below B p2_2 f2_2
  replace f2_3 := frozen_below B p2_3 f2_3
  replace p0_0 := cell_below B p0_0
  replace p0_1 := cell_below B p0_1
  replace p0_2 := cell_below B p0_2
  replace p0_3 := cell_below B p0_3
  replace p1_0 := cell_below B p1_0
  replace p1_1 := cell_below B p1_1
  replace p1_2 := cell_below B p1_2
  replace p1_3 := cell_below B p1_3
  replace p2_0 := cell_below B p2_0
  replace p2_1 := cell_below B p2_1
  replace p2_2 := cell_below B p2_2
  replace p2_3 := cell_below B p2_3
  have p3_0 := box_cell (((w.alloc (.cells #[.int .i64 x0, .int .i64 x1, .int .i64 x2, .int .i64 x3] u)).alloc (.cells #[.int .i64 y0, .int .i64 y1, .int .i64 y2, .int .i64 y3] u)).alloc (.cells #[.int .i64 z0, .int .i64 z1, .int .i64 z2, .int .i64 z3] u)) #[.int .i64 t0, .int .i64 t1, .int .i64 t2, .int .i64 t3] u 0 _ rfl
  have p3_1 := box_cell (((w.alloc (.cells #[.int .i64 x0, .int .i64 x1, .int .i64 x2, .int .i64 x3] u)).alloc (.cells #[.int .i64 y0, .int .i64 y1, .int .i64 y2, .int .i64 y3] u)).alloc (.cells #[.int .i64 z0, .int .i64 z1, .int .i64 z2, .int .i64 z3] u)) #[.int .i64 t0, .int .i64 t1, .int .i64 t2, .int .i64 t3] u 1 _ rfl
  have p3_2 := box_cell (((w.alloc (.cells #[.int .i64 x0, .int .i64 x1, .int .i64 x2, .int .i64 x3] u)).alloc (.cells #[.int .i64 y0, .int .i64 y1, .int .i64 y2, .int .i64 y3] u)).alloc (.cells #[.int .i64 z0, .int .i64 z1, .int .i64 z2, .int .i64 z3] u)) #[.int .i64 t0, .int .i64 t1, .int .i64 t2, .int .i64 t3] u 2 _ rfl
  have p3_3 := box_cell (((w.alloc (.cells #[.int .i64 x0, .int .i64 x1, .int .i64 x2, .int .i64 x3] u)).alloc (.cells #[.int .i64 y0, .int .i64 y1, .int .i64 y2, .int .i64 y3] u)).alloc (.cells #[.int .i64 z0, .int .i64 z1, .int .i64 z2, .int .i64 z3] u)) #[.int .i64 t0, .int .i64 t1, .int .i64 t2, .int .i64 t3] u 3 _ rfl
  have f3_0 := box_frozen (((w.alloc (.cells #[.int .i64 x0, .int .i64 x1, .int .i64 x2, .int .i64 x3] u)).alloc (.cells #[.int .i64 y0, .int .i64 y1, .int .i64 y2, .int .i64 y3] u)).alloc (.cells #[.int .i64 z0, .int .i64 z1, .int .i64 z2, .int .i64 z3] u)) #[.int .i64 t0, .int .i64 t1, .int .i64 t2, .int .i64 t3] u 0
  have f3_1 := box_frozen (((w.alloc (.cells #[.int .i64 x0, .int .i64 x1, .int .i64 x2, .int .i64 x3] u)).alloc (.cells #[.int .i64 y0, .int .i64 y1, .int .i64 y2, .int .i64 y3] u)).alloc (.cells #[.int .i64 z0, .int .i64 z1, .int .i64 z2, .int .i64 z3] u)) #[.int .i64 t0, .int .i64 t1, .int .i64 t2, .int .i64 t3] u 1
  have f3_2 := box_frozen (((w.alloc (.cells #[.int .i64 x0, .int .i64 x1, .int .i64 x2, .int .i64 x3] u)).alloc (.cells #[.int .i64 y0, .int .i64 y1, .int .i64 y2, .int .i64 y3] u)).alloc (.cells #[.int .i64 z0, .int .i64 z1, .int .i64 z2, .int .i64 z3] u)) #[.int .i64 t0, .int .i64 t1, .int .i64 t2, .int .i64 t3] u 2
  have f3_3 := box_frozen (((w.alloc (.cells #[.int .i64 x0, .int .i64 x1, .int .i64 x2, .int .i64 x3] u)).alloc (.cells #[.int .i64 y0, .int .i64 y1, .int .i64 y2, .int .i64 y3] u)).alloc (.cells #[.int .i64 z0, .int .i64 z1, .int .i64 z2, .int .i64 z3] u)) #[.int .i64 t0, .int .i64 t1, .int .i64 t2, .int .i64 t3] u 3
  rw [hsz3] at p3_0 p3_1 p3_2 p3_3 f3_0 f3_1 f3_2 f3_3
  have hsz4 : ((((w.alloc (.cells #[.int .i64 x0, .int .i64 x1, .int .i64 x2, .int .i64 x3] u)).alloc (.cells #[.int .i64 y0, .int .i64 y1, .int .i64 y2, .int .i64 y3] u)).alloc (.cells #[.int .i64 z0, .int .i64 z1, .int .i64 z2, .int .i64 z3] u)).alloc (.cells #[.int .i64 t0, .int .i64 t1, .int .i64 t2, .int .i64 t3] u)).heap.size = w.heap.size + 4 := by simp
  obtain ⟨B, BB⟩ := box_on BB #[.int .i64 0, .int .i64 0, .int .i64 0, .int .i64 0, .int .i64 0, .int .i64 0, .int .i64 0, .int .i64 0, .int .i64 0, .int .i64 0, .int .i64 0, .int .i64 0, .int .i64 0, .int .i64 0, .int .i64 0, .int .i64 0] v
  replace f0_0 := frozen_below B p0_0 f0_0
  replace f0_1 := frozen_below B p0_1 f0_1
  replace f0_2 := frozen_below B p0_2 f0_2
  replace f0_3 := frozen_below B p0_3 f0_3
  replace f1_0 := frozen_below B p1_0 f1_0
  replace f1_1 := frozen_below B p1_1 f1_1
  replace f1_2 := frozen_below B p1_2 f1_2
  replace f1_3 := frozen_below B p1_3 f1_3
  replace f2_0 := frozen_below B p2_0 f2_0
  replace f2_1 := frozen_below B p2_1 f2_1
  replace f2_2 := frozen_below B p2_2 f2_2
  replace f2_3 := frozen_below B p2_3 f2_3
  replace f3_0 := frozen_below B p3_0 f3_0
  replace f3_1 := frozen_below B p3_1 f3_1
  replace f3_2 := frozen_below B p3_2 f3_2
  replace f3_3 := frozen_below B p3_3 f3_3
  replace p0_0 := cell_below B p0_0
  replace p0_1 := cell_below B p0_1
  replace p0_2 := cell_below B p0_2
  replace p0_3 := cell_below B p0_3
  replace p1_0 := cell_below B p1_0
  replace p1_1 := cell_below B p1_1
  replace p1_2 := cell_below B p1_2
  replace p1_3 := cell_below B p1_3
  replace p2_0 := cell_below B p2_0
  replace p2_1 := cell_below B p2_1
  replace p2_2 := cell_below B p2_2
  replace p2_3 := cell_below B p2_3
  replace p3_0 := cell_below B p3_0
  replace p3_1 := cell_below B p3_1
  replace p3_2 := cell_below B p3_2
  replace p3_3 := cell_below B p3_3
  have M4 := mat_box ((((w.alloc (.cells #[.int .i64 x0, .int .i64 x1, .int .i64 x2, .int .i64 x3] u)).alloc (.cells #[.int .i64 y0, .int .i64 y1, .int .i64 y2, .int .i64 y3] u)).alloc (.cells #[.int .i64 z0, .int .i64 z1, .int .i64 z2, .int .i64 z3] u)).alloc (.cells #[.int .i64 t0, .int .i64 t1, .int .i64 t2, .int .i64 t3] u)) (fun _ => 0) v
  have Z4 := mat_boxz ((((w.alloc (.cells #[.int .i64 x0, .int .i64 x1, .int .i64 x2, .int .i64 x3] u)).alloc (.cells #[.int .i64 y0, .int .i64 y1, .int .i64 y2, .int .i64 y3] u)).alloc (.cells #[.int .i64 z0, .int .i64 z1, .int .i64 z2, .int .i64 z3] u)).alloc (.cells #[.int .i64 t0, .int .i64 t1, .int .i64 t2, .int .i64 t3] u)) (fun _ => 0) v
  rw [hsz4] at M4 Z4
  exact ⟨BB, p0_0, p0_1, p0_2, p0_3, p1_0, p1_1, p1_2, p1_3, p2_0, p2_1, p2_2, p2_3, p3_0, p3_1, p3_2, p3_3, M4, Z4⟩

theorem argsZ (w : World)  (t : TypeId) :
    Below w.heap.size w (w.alloc (.cells #[.int .i64 0, .int .i64 0, .int .i64 0, .int .i64 0, .int .i64 0, .int .i64 0, .int .i64 0, .int .i64 0, .int .i64 0, .int .i64 0, .int .i64 0, .int .i64 0, .int .i64 0, .int .i64 0, .int .i64 0, .int .i64 0] t)) ∧
    (∀ i, i < 16 → (w.alloc (.cells #[.int .i64 0, .int .i64 0, .int .i64 0, .int .i64 0, .int .i64 0, .int .i64 0, .int .i64 0, .int .i64 0, .int .i64 0, .int .i64 0, .int .i64 0, .int .i64 0, .int .i64 0, .int .i64 0, .int .i64 0, .int .i64 0] t)).cell? ⟨w.heap.size, i, none⟩ = some (.int .i64 0)) ∧
    (∀ i, i < 16 → (w.alloc (.cells #[.int .i64 0, .int .i64 0, .int .i64 0, .int .i64 0, .int .i64 0, .int .i64 0, .int .i64 0, .int .i64 0, .int .i64 0, .int .i64 0, .int .i64 0, .int .i64 0, .int .i64 0, .int .i64 0, .int .i64 0, .int .i64 0] t)).frozen? ⟨w.heap.size, i, none⟩ = false) := by
  have BB : Below w.heap.size w w := Below.refl _ _
  have hsz0 : w.heap.size = w.heap.size := by simp
  obtain ⟨B, BB⟩ := box_on BB #[.int .i64 0, .int .i64 0, .int .i64 0, .int .i64 0, .int .i64 0, .int .i64 0, .int .i64 0, .int .i64 0, .int .i64 0, .int .i64 0, .int .i64 0, .int .i64 0, .int .i64 0, .int .i64 0, .int .i64 0, .int .i64 0] t
  have M0 := mat_box w (fun _ => 0) t
  have Z0 := mat_boxz w (fun _ => 0) t
  rw [hsz0] at M0 Z0
  exact ⟨BB, M0, Z0⟩

set_option maxRecDepth 100000 in
set_option maxHeartbeats 4000000 in
theorem ofrows_b (x0 x1 x2 x3 y0 y1 y2 y3 z0 z1 z2 z3 t0 t1 t2 t3 : Int) (w : World) :
    Calls Try.prog 42 #[.agg #[.int .i64 x0, .int .i64 x1, .int .i64 x2, .int .i64 x3], .agg #[.int .i64 y0, .int .i64 y1, .int .i64 y2, .int .i64 y3], .agg #[.int .i64 z0, .int .i64 z1, .int .i64 z2, .int .i64 z3], .agg #[.int .i64 t0, .int .i64 t1, .int .i64 t2, .int .i64 t3]] w fun e w' => e = .returned (.agg (mats (ofl x0 x1 x2 x3 y0 y1 y2 y3 z0 z1 z2 z3 t0 t1 t2 t3))) ∧ Below w.heap.size w w' := by
  obtain ⟨BB, a0, a1, a2, a3, b0, b1, b2, b3, c0, c1, c2, c3, d0, d1, d2, d3, M0, Z0⟩ := argsO w x0 x1 x2 x3 y0 y1 y2 y3 z0 z1 z2 z3 t0 t1 t2 t3 25 23
  go_enter Try.func42, Try.ntmps42
  go_wp2_with (refine wpList_mstore rfl _ _ _ rfl (ofl x0 x1 x2 x3 y0 y1 y2 y3 z0 z1 z2 z3 t0 t1 t2 t3) rfl rfl (m0 := fun _ => 0) M0 Z0 BB (by omega) matT ?_; intro W' BB' M' Z' _ _ _; clear M0 Z0 BB)
  exact bodyPost_ret (results_mat Try.results42 matT M' _ rfl) rfl ⟨rfl, BB'⟩

set_option maxRecDepth 100000 in
set_option maxHeartbeats 4000000 in
theorem scale_b (x y z : Int) (w : World) :
    Calls Try.prog 27 #[.int .i64 x, .int .i64 y, .int .i64 z] w fun e w' => e = .returned (.agg (mats (scm x y z))) ∧ Below w.heap.size w w' := by
  obtain ⟨BB, M0, Z0⟩ := argsZ w 23
  go_enter Try.func27, Try.ntmps27
  go_wp2_with (first | (refine wpList_mstore rfl _ _ _ rfl (scm x y z) rfl rfl (m0 := fun _ => 0) M0 Z0 BB (by omega) matT ?_; intro W' BB' M' Z' _ _ _; clear M0 Z0 BB) | (first | (refine wpList_mload rfl _ _ rfl matT M0 rfl ?_; go_simp) | (go_at_call 49; refine (saturate_b _ _).mono ?_; rintro _ _ ⟨rfl, B⟩; replace BB := bon BB B; replace Z0 := matz_below B M0 Z0; replace M0 := mat_below B M0) | (go_at_call 42; refine (ofrows_b _ _ _ _ _ _ _ _ _ _ _ _ _ _ _ _ _).mono ?_; rintro _ _ ⟨rfl, B⟩; replace BB := bon BB B; replace Z0 := matz_below B M0 Z0; replace M0 := mat_below B M0)))
  exact bodyPost_ret (results_mat Try.results27 matT M' _ rfl) rfl ⟨rfl, BB'⟩

set_option maxRecDepth 100000 in
set_option maxHeartbeats 4000000 in
theorem translate_b (x y z : Int) (w : World) :
    Calls Try.prog 25 #[.int .i64 x, .int .i64 y, .int .i64 z] w fun e w' => e = .returned (.agg (mats (trm x y z))) ∧ Below w.heap.size w w' := by
  obtain ⟨BB, M0, Z0⟩ := argsZ w 23
  go_enter Try.func25, Try.ntmps25
  go_wp2_with (first | (refine wpList_mstore rfl _ _ _ rfl (trm x y z) rfl rfl (m0 := fun _ => 0) M0 Z0 BB (by omega) matT ?_; intro W' BB' M' Z' _ _ _; clear M0 Z0 BB) | (first | (refine wpList_mload rfl _ _ rfl matT M0 rfl ?_; go_simp) | (go_at_call 49; refine (saturate_b _ _).mono ?_; rintro _ _ ⟨rfl, B⟩; replace BB := bon BB B; replace Z0 := matz_below B M0 Z0; replace M0 := mat_below B M0) | (go_at_call 42; refine (ofrows_b _ _ _ _ _ _ _ _ _ _ _ _ _ _ _ _ _).mono ?_; rintro _ _ ⟨rfl, B⟩; replace BB := bon BB B; replace Z0 := matz_below B M0 Z0; replace M0 := mat_below B M0)))
  exact bodyPost_ret (results_mat Try.results25 matT M' _ rfl) rfl ⟨rfl, BB'⟩

set_option maxRecDepth 100000 in
set_option maxHeartbeats 4000000 in
theorem rscale_b (x y z : Int) (w : World) :
    Calls Try.prog 28 #[.int .i64 x, .int .i64 y, .int .i64 z] w fun e w' => e = .returned (.agg (mats (scm x y z))) ∧ Below w.heap.size w w' := by
  obtain ⟨BB, M0, Z0⟩ := argsZ w 23
  go_enter Try.func28, Try.ntmps28
  go_wp2_with (first | (refine wpList_mstore rfl _ _ _ rfl (scm x y z) rfl rfl (m0 := fun _ => 0) M0 Z0 BB (by omega) matT ?_; intro W' BB' M' Z' _ _ _; clear M0 Z0 BB) | (first | (refine wpList_mload rfl _ _ rfl matT M0 rfl ?_; go_simp) | (go_at_call 50; refine (rsaturate_b _ _).mono ?_; rintro _ _ ⟨rfl, B⟩; replace BB := bon BB B; replace Z0 := matz_below B M0 Z0; replace M0 := mat_below B M0)))
  exact bodyPost_ret (results_mat Try.results28 matT M' _ rfl) rfl ⟨rfl, BB'⟩

set_option maxRecDepth 100000 in
set_option maxHeartbeats 4000000 in
theorem identity_b (w : World) :
    Calls Try.prog 23 #[] w fun e w' => e = .returned (.agg (mats idm)) ∧ Below w.heap.size w w' := by
  obtain ⟨BB, M0, Z0⟩ := argsZ w 23
  go_enter Try.func23, Try.ntmps23
  go_wp2_with (first | (refine wpList_mstore rfl _ _ _ rfl (idm) rfl rfl (m0 := fun _ => 0) M0 Z0 BB (by omega) matT ?_; intro W' BB' M' Z' _ _ _; clear M0 Z0 BB) | (first | (refine wpList_mload rfl _ _ rfl matT M0 rfl ?_; go_simp) | (go_at_call 27; refine (scale_b _ _ _ _).mono ?_; rintro _ _ ⟨rfl, B⟩; replace BB := bon BB B; replace Z0 := matz_below B M0 Z0; replace M0 := mat_below B M0)))
  exact bodyPost_ret (results_mat Try.results23 matT M' _ rfl) rfl ⟨rfl, BB'⟩

set_option maxRecDepth 100000 in
theorem ridentity_b (w : World) :
    Calls Try.prog 24 #[] w fun e w' => e = .returned (.agg (mats idm)) ∧ Below w.heap.size w w' := by
  go_enter Try.func24, Try.ntmps24
  go_wp2_with (refine wpList_mfill rfl _ _ _ rfl idm matT rfl rfl ?_; go_simp)
  exact bodyPost_ret (results_mat Try.results24 matT (mat_box w idm _) _ rfl) rfl ⟨rfl, box_below _ _ _⟩

set_option maxRecDepth 100000 in
set_option maxHeartbeats 4000000 in
theorem rtranslate_b (x y z : Int) (w : World) :
    Calls Try.prog 26 #[.int .i64 x, .int .i64 y, .int .i64 z] w fun e w' => e = .returned (.agg (mats (trm x y z))) ∧ Below w.heap.size w w' := by
  obtain ⟨BB, M0, Z0⟩ := argsZ w 23
  go_enter Try.func26, Try.ntmps26
  go_wp2_with (first
    | (go_at_call 24; refine (ridentity_b _).mono ?_; rintro _ W1 ⟨rfl, B⟩; have hs1 := B.size; simp at hs1; have HH := Lib.hid hs1; replace BB := bon BB B; replace Z0 := matz_below B M0 Z0; replace M0 := mat_below B M0; clear B hs1)
    | (refine wpList_mfill rfl _ _ _ rfl idm matT rfl rfl ?_; go_simp; obtain ⟨B, BB1⟩ := box_on BB ((mats idm)) 23; clear BB; have BB := BB1; clear BB1; have M5 := mat_box W1 idm 23; have Z5 := mat_boxz W1 idm 23; replace Z0 := matz_below B M0 Z0; replace M0 := mat_below B M0; clear B; generalize W1.heap.size = sb at *)
    | (refine wpList_mset rfl _ _ _ rfl M5 Z5 BB (by have := HH.out; omega) rfl rfl (by decide) (by kernel_rfl) ?_; intro W' BB' M' Z' hc hf; replace Z0 := matz_far hf Z0; replace M0 := mat_far hc (by have := HH.out; omega) M0; clear M5 Z5 BB hc hf; have M5 := M'; have Z5 := Z'; have BB := BB'; clear M' Z' BB'; go_simp)
    | (refine wpList_mstore rfl _ _ _ rfl (trm x y z) rfl rfl (m0 := fun _ => 0) M0 Z0 BB (by omega) matT ?_; intro W' BB' M' Z' _ _ _; clear M0 Z0 BB M5 Z5)
    | (first | (refine wpList_mload rfl _ _ rfl matT M0 rfl ?_; go_simp) | (refine wpList_mload rfl _ _ rfl matT M5 rfl ?_; go_simp) | (go_at_call 50; refine (rsaturate_b _ _).mono ?_; rintro _ _ ⟨rfl, B⟩; replace BB := bon BB B; replace Z0 := matz_below B M0 Z0; replace Z5 := matz_below B M5 Z5; replace M0 := mat_below B M0; replace M5 := mat_below B M5)))
  exact bodyPost_ret (results_mat Try.results26 matT M' _ rfl) rfl ⟨rfl, BB'⟩

theorem imax_imin_sat (x : Int) : imax (-536870911) (imin 536870911 x) = sat x := by unfold imax imin sat; grind

theorem limited_b (x : Int) (w : World) : Calls Try.prog 33 #[.int .i64 x] w fun e w' => e = .returned (.int .i64 (sat x)) ∧ Below w.heap.size w w' := by
  have hmin : ∀ (ts : Array TypeId) (t : TypeId) (x y : Int) (w : World), (Builtin.min_ ts t #[.int .i64 x, .int .i64 y]).run Try.prog w = .ok (.int .i64 (imin x y)) w := fun ts t x y w => by simp [Builtin.min_, Builtin.min2, imin]
  have hmax : ∀ (ts : Array TypeId) (t : TypeId) (x y : Int) (w : World), (Builtin.max_ ts t #[.int .i64 x, .int .i64 y]).run Try.prog w = .ok (.int .i64 (imax x y)) w := fun ts t x y w => by simp [Builtin.max_, Builtin.max2, imax]
  go_enter Try.func33, Try.ntmps33
  go_wp2_with fail
  go_ret
  exact ⟨ret_int (imax_imin_sat x), Below.refl _ _⟩

set_option maxRecDepth 100000 in
theorem limitedvec_b (x0 x1 x2 x3 : Int) (w : World) :
    Calls Try.prog 30 #[.agg #[.int .i64 x0, .int .i64 x1, .int .i64 x2, .int .i64 x3]] w fun e w' => e = .returned (.agg #[.int .i64 (sat x0), .int .i64 (sat x1), .int .i64 (sat x2), .int .i64 (sat x3)]) ∧ Below w.heap.size w w' := by
  obtain ⟨BB, a0, a1, a2, a3, d0, d1, d2, d3, f0, f1, f2, f3⟩ := args1 w (.int .i64 x0) (.int .i64 x1) (.int .i64 x2) (.int .i64 x3) 25
  go_enter Try.func30, Try.ntmps30
  go_wp2_with fail
  have k_a0 := cell_regrown a0
  have k_a1 := cell_regrown a1
  have k_a2 := cell_regrown a2
  have k_a3 := cell_regrown a3
  have k_d0 := cell_regrown d0
  have k_d1 := cell_regrown d1
  have k_d2 := cell_regrown d2
  have k_d3 := cell_regrown d3
  refine wp_region_tail (n := 13) (by kernel_rfl) (by kernel_rfl) ?_
  simp only [List.take_succ_cons, List.take_zero, List.drop_succ_cons, List.drop_zero]
  repeat (first | go_big_quiet_step ((first | (go_at_call 33; exact Calls.regrown_of (limited_b _ _)))) | quiet_step ((first | (go_at_call 33; exact Calls.regrown_of (limited_b _ _)))))
  refine wpQuiet_nil ?_
  intro W hw'
  have B := below_regrown' hw'
  clear hw' k_a0 k_a1 k_a2 k_a3 k_d0 k_d1 k_d2 k_d3
  replace BB := bon BB B
  replace f0 := frozen_below B d0 f0
  replace f1 := frozen_below B d1 f1
  replace f2 := frozen_below B d2 f2
  replace f3 := frozen_below B d3 f3
  replace a0 := cell_below B a0
  replace a1 := cell_below B a1
  replace a2 := cell_below B a2
  replace a3 := cell_below B a3
  replace d0 := cell_below B d0
  replace d1 := cell_below B d1
  replace d2 := cell_below B d2
  replace d3 := cell_below B d3
  go_wp2_with fail
  exact bodyPost_ret (v := .agg #[.int .i64 (sat x0), .int .i64 (sat x1), .int .i64 (sat x2), .int .i64 (sat x3)]) (by simp [results, Try.results30, go_sem, *]) rfl ⟨rfl, (((BB.setCell (by simp) _).setCell (by simp) _).setCell (by simp) _).setCell (by simp) _⟩

/-- A matrix whose first n elements are limited. -/
def lims (m : Nat → Int) (n k : Nat) : Int := if k < n then sat (m k) else m k
def limm (m : Nat → Int) (k : Nat) : Int := sat (m k)
theorem lims_set {W : World} {b n : Nat} {m : Nat → Int} (c : (∀ i, i < 16 → W.cell? ⟨b, i, none⟩ = some (.int .i64 ((lims m n) i)))) (hp : n < 16) : (∀ i, i < 16 → (W.setCell ⟨b, n, none⟩ (.int .i64 (sat (lims m n n)))).cell? ⟨b, i, none⟩ = some (.int .i64 ((lims m (n + 1)) i))) :=
  mat_set c hp (by unfold lims; rw [if_pos (by omega), if_neg (by omega)]) (fun i hi => by unfold lims; split <;> split <;> first | rfl | omega)

theorem argsL (w : World) (m : Nat → Int) (t : TypeId) :
    Below w.heap.size w ((w.alloc (.cells (mats m) t)).alloc (.cells #[.int .i64 0, .int .i64 0, .int .i64 0, .int .i64 0, .int .i64 0, .int .i64 0, .int .i64 0, .int .i64 0, .int .i64 0, .int .i64 0, .int .i64 0, .int .i64 0, .int .i64 0, .int .i64 0, .int .i64 0, .int .i64 0] t)) ∧
    (∀ i, i < 16 → ((w.alloc (.cells (mats m) t)).alloc (.cells #[.int .i64 0, .int .i64 0, .int .i64 0, .int .i64 0, .int .i64 0, .int .i64 0, .int .i64 0, .int .i64 0, .int .i64 0, .int .i64 0, .int .i64 0, .int .i64 0, .int .i64 0, .int .i64 0, .int .i64 0, .int .i64 0] t)).cell? ⟨w.heap.size, i, none⟩ = some (.int .i64 (m i))) ∧
    (∀ i, i < 16 → ((w.alloc (.cells (mats m) t)).alloc (.cells #[.int .i64 0, .int .i64 0, .int .i64 0, .int .i64 0, .int .i64 0, .int .i64 0, .int .i64 0, .int .i64 0, .int .i64 0, .int .i64 0, .int .i64 0, .int .i64 0, .int .i64 0, .int .i64 0, .int .i64 0, .int .i64 0] t)).cell? ⟨w.heap.size + 1, i, none⟩ = some (.int .i64 0)) ∧
    (∀ i, i < 16 → ((w.alloc (.cells (mats m) t)).alloc (.cells #[.int .i64 0, .int .i64 0, .int .i64 0, .int .i64 0, .int .i64 0, .int .i64 0, .int .i64 0, .int .i64 0, .int .i64 0, .int .i64 0, .int .i64 0, .int .i64 0, .int .i64 0, .int .i64 0, .int .i64 0, .int .i64 0] t)).frozen? ⟨w.heap.size, i, none⟩ = false) ∧
    (∀ i, i < 16 → ((w.alloc (.cells (mats m) t)).alloc (.cells #[.int .i64 0, .int .i64 0, .int .i64 0, .int .i64 0, .int .i64 0, .int .i64 0, .int .i64 0, .int .i64 0, .int .i64 0, .int .i64 0, .int .i64 0, .int .i64 0, .int .i64 0, .int .i64 0, .int .i64 0, .int .i64 0] t)).frozen? ⟨w.heap.size + 1, i, none⟩ = false) := by
  have BB : Below w.heap.size w w := Below.refl _ _
  have hsz0 : w.heap.size = w.heap.size := by simp
  obtain ⟨B, BB⟩ := box_on BB (mats m) t
  have M0 := mat_box w m t
  have Z0 := mat_boxz w m t
  rw [hsz0] at M0 Z0
  have hsz1 : (w.alloc (.cells (mats m) t)).heap.size = w.heap.size + 1 := by simp
  obtain ⟨B, BB⟩ := box_on BB #[.int .i64 0, .int .i64 0, .int .i64 0, .int .i64 0, .int .i64 0, .int .i64 0, .int .i64 0, .int .i64 0, .int .i64 0, .int .i64 0, .int .i64 0, .int .i64 0, .int .i64 0, .int .i64 0, .int .i64 0, .int .i64 0] t
  replace Z0 := matz_below B M0 Z0
  replace M0 := mat_below B M0
  have M1 := mat_box (w.alloc (.cells (mats m) t)) (fun _ => 0) t
  have Z1 := mat_boxz (w.alloc (.cells (mats m) t)) (fun _ => 0) t
  rw [hsz1] at M1 Z1
  exact ⟨BB, M0, M1, Z0, Z1⟩

def LS (w : World) (m : Nat → Int) (n : Nat) (W : World) : Prop := Below w.heap.size w W ∧ (∀ i, i < 16 → W.cell? ⟨w.heap.size, i, none⟩ = some (.int .i64 ((lims m n) i))) ∧ (∀ i, i < 16 → W.cell? ⟨w.heap.size + 1, i, none⟩ = some (.int .i64 0)) ∧ (∀ i, i < 16 → W.frozen? ⟨w.heap.size, i, none⟩ = false) ∧ (∀ i, i < 16 → W.frozen? ⟨w.heap.size + 1, i, none⟩ = false)

set_option maxRecDepth 100000 in
set_option maxHeartbeats 4000000 in
theorem limitedmat_b (m : Nat → Int) (w : World) :
    Calls Try.prog 29 #[.agg (mats m)] w fun e w' => e = .returned (.agg (mats (limm m))) ∧ Below w.heap.size w w' := by
  obtain ⟨BB, M0, M1, Z0, Z1⟩ := argsL w m 23
  go_enter Try.func29, Try.ntmps29
  go_wp2_with fail
  go_loopw [3] (fun i W => (i = .int .i64 0 ∧ LS w m 0 W) ∨ (i = .int .i64 1 ∧ LS w m 1 W) ∨ (i = .int .i64 2 ∧ LS w m 2 W) ∨ (i = .int .i64 3 ∧ LS w m 3 W) ∨ (i = .int .i64 4 ∧ LS w m 4 W) ∨ (i = .int .i64 5 ∧ LS w m 5 W) ∨ (i = .int .i64 6 ∧ LS w m 6 W) ∨ (i = .int .i64 7 ∧ LS w m 7 W) ∨ (i = .int .i64 8 ∧ LS w m 8 W) ∨ (i = .int .i64 9 ∧ LS w m 9 W) ∨ (i = .int .i64 10 ∧ LS w m 10 W) ∨ (i = .int .i64 11 ∧ LS w m 11 W) ∨ (i = .int .i64 12 ∧ LS w m 12 W) ∨ (i = .int .i64 13 ∧ LS w m 13 W) ∨ (i = .int .i64 14 ∧ LS w m 14 W) ∨ (i = .int .i64 15 ∧ LS w m 15 W) ∨ (i = .int .i64 16 ∧ LS w m 16 W)) (fun i _ => (16 - intOf i).toNat)
  case atStart => exact .inl ⟨rfl, BB, mat_to M0 (fun k _ => (if_neg (by omega)).symm), M1, Z0, Z1⟩
  case round =>
    clear BB M0 M1 Z0 Z1
    rcases hrel with ⟨rfl, BB, M0, M1, Z0, Z1⟩ | ⟨rfl, BB, M0, M1, Z0, Z1⟩ | ⟨rfl, BB, M0, M1, Z0, Z1⟩ | ⟨rfl, BB, M0, M1, Z0, Z1⟩ | ⟨rfl, BB, M0, M1, Z0, Z1⟩ | ⟨rfl, BB, M0, M1, Z0, Z1⟩ | ⟨rfl, BB, M0, M1, Z0, Z1⟩ | ⟨rfl, BB, M0, M1, Z0, Z1⟩ | ⟨rfl, BB, M0, M1, Z0, Z1⟩ | ⟨rfl, BB, M0, M1, Z0, Z1⟩ | ⟨rfl, BB, M0, M1, Z0, Z1⟩ | ⟨rfl, BB, M0, M1, Z0, Z1⟩ | ⟨rfl, BB, M0, M1, Z0, Z1⟩ | ⟨rfl, BB, M0, M1, Z0, Z1⟩ | ⟨rfl, BB, M0, M1, Z0, Z1⟩ | ⟨rfl, BB, M0, M1, Z0, Z1⟩ | ⟨rfl, BB, M0, M1, Z0, Z1⟩
    · go_wp2_with (first | (refine wpList_mload rfl _ _ rfl matT M0 rfl ?_; go_simp) | (refine wpList_mload rfl _ _ rfl matT M1 rfl ?_; go_simp) | (go_at_call 33; refine (limited_b _ _).mono ?_; rintro _ _ ⟨rfl, B⟩; replace BB := bon BB B; replace Z0 := matz_below B M0 Z0; replace Z1 := matz_below B M1 Z1; replace M0 := mat_below B M0; replace M1 := mat_below B M1))
      go_roundw
      case rel => exact .inr (.inl ⟨rfl, BB.setCell (Nat.le_refl _) _, lims_set M0 (by decide), mat_set_far M1 (by omega), matz_set Z0, matz_set Z1⟩)
      case measure => simp [intOf]
    · go_wp2_with (first | (refine wpList_mload rfl _ _ rfl matT M0 rfl ?_; go_simp) | (refine wpList_mload rfl _ _ rfl matT M1 rfl ?_; go_simp) | (go_at_call 33; refine (limited_b _ _).mono ?_; rintro _ _ ⟨rfl, B⟩; replace BB := bon BB B; replace Z0 := matz_below B M0 Z0; replace Z1 := matz_below B M1 Z1; replace M0 := mat_below B M0; replace M1 := mat_below B M1))
      go_roundw
      case rel => exact .inr (.inr (.inl ⟨rfl, BB.setCell (Nat.le_refl _) _, lims_set M0 (by decide), mat_set_far M1 (by omega), matz_set Z0, matz_set Z1⟩))
      case measure => simp [intOf]
    · go_wp2_with (first | (refine wpList_mload rfl _ _ rfl matT M0 rfl ?_; go_simp) | (refine wpList_mload rfl _ _ rfl matT M1 rfl ?_; go_simp) | (go_at_call 33; refine (limited_b _ _).mono ?_; rintro _ _ ⟨rfl, B⟩; replace BB := bon BB B; replace Z0 := matz_below B M0 Z0; replace Z1 := matz_below B M1 Z1; replace M0 := mat_below B M0; replace M1 := mat_below B M1))
      go_roundw
      case rel => exact .inr (.inr (.inr (.inl ⟨rfl, BB.setCell (Nat.le_refl _) _, lims_set M0 (by decide), mat_set_far M1 (by omega), matz_set Z0, matz_set Z1⟩)))
      case measure => simp [intOf]
    · go_wp2_with (first | (refine wpList_mload rfl _ _ rfl matT M0 rfl ?_; go_simp) | (refine wpList_mload rfl _ _ rfl matT M1 rfl ?_; go_simp) | (go_at_call 33; refine (limited_b _ _).mono ?_; rintro _ _ ⟨rfl, B⟩; replace BB := bon BB B; replace Z0 := matz_below B M0 Z0; replace Z1 := matz_below B M1 Z1; replace M0 := mat_below B M0; replace M1 := mat_below B M1))
      go_roundw
      case rel => exact .inr (.inr (.inr (.inr (.inl ⟨rfl, BB.setCell (Nat.le_refl _) _, lims_set M0 (by decide), mat_set_far M1 (by omega), matz_set Z0, matz_set Z1⟩))))
      case measure => simp [intOf]
    · go_wp2_with (first | (refine wpList_mload rfl _ _ rfl matT M0 rfl ?_; go_simp) | (refine wpList_mload rfl _ _ rfl matT M1 rfl ?_; go_simp) | (go_at_call 33; refine (limited_b _ _).mono ?_; rintro _ _ ⟨rfl, B⟩; replace BB := bon BB B; replace Z0 := matz_below B M0 Z0; replace Z1 := matz_below B M1 Z1; replace M0 := mat_below B M0; replace M1 := mat_below B M1))
      go_roundw
      case rel => exact .inr (.inr (.inr (.inr (.inr (.inl ⟨rfl, BB.setCell (Nat.le_refl _) _, lims_set M0 (by decide), mat_set_far M1 (by omega), matz_set Z0, matz_set Z1⟩)))))
      case measure => simp [intOf]
    · go_wp2_with (first | (refine wpList_mload rfl _ _ rfl matT M0 rfl ?_; go_simp) | (refine wpList_mload rfl _ _ rfl matT M1 rfl ?_; go_simp) | (go_at_call 33; refine (limited_b _ _).mono ?_; rintro _ _ ⟨rfl, B⟩; replace BB := bon BB B; replace Z0 := matz_below B M0 Z0; replace Z1 := matz_below B M1 Z1; replace M0 := mat_below B M0; replace M1 := mat_below B M1))
      go_roundw
      case rel => exact .inr (.inr (.inr (.inr (.inr (.inr (.inl ⟨rfl, BB.setCell (Nat.le_refl _) _, lims_set M0 (by decide), mat_set_far M1 (by omega), matz_set Z0, matz_set Z1⟩))))))
      case measure => simp [intOf]
    · go_wp2_with (first | (refine wpList_mload rfl _ _ rfl matT M0 rfl ?_; go_simp) | (refine wpList_mload rfl _ _ rfl matT M1 rfl ?_; go_simp) | (go_at_call 33; refine (limited_b _ _).mono ?_; rintro _ _ ⟨rfl, B⟩; replace BB := bon BB B; replace Z0 := matz_below B M0 Z0; replace Z1 := matz_below B M1 Z1; replace M0 := mat_below B M0; replace M1 := mat_below B M1))
      go_roundw
      case rel => exact .inr (.inr (.inr (.inr (.inr (.inr (.inr (.inl ⟨rfl, BB.setCell (Nat.le_refl _) _, lims_set M0 (by decide), mat_set_far M1 (by omega), matz_set Z0, matz_set Z1⟩)))))))
      case measure => simp [intOf]
    · go_wp2_with (first | (refine wpList_mload rfl _ _ rfl matT M0 rfl ?_; go_simp) | (refine wpList_mload rfl _ _ rfl matT M1 rfl ?_; go_simp) | (go_at_call 33; refine (limited_b _ _).mono ?_; rintro _ _ ⟨rfl, B⟩; replace BB := bon BB B; replace Z0 := matz_below B M0 Z0; replace Z1 := matz_below B M1 Z1; replace M0 := mat_below B M0; replace M1 := mat_below B M1))
      go_roundw
      case rel => exact .inr (.inr (.inr (.inr (.inr (.inr (.inr (.inr (.inl ⟨rfl, BB.setCell (Nat.le_refl _) _, lims_set M0 (by decide), mat_set_far M1 (by omega), matz_set Z0, matz_set Z1⟩))))))))
      case measure => simp [intOf]
    · go_wp2_with (first | (refine wpList_mload rfl _ _ rfl matT M0 rfl ?_; go_simp) | (refine wpList_mload rfl _ _ rfl matT M1 rfl ?_; go_simp) | (go_at_call 33; refine (limited_b _ _).mono ?_; rintro _ _ ⟨rfl, B⟩; replace BB := bon BB B; replace Z0 := matz_below B M0 Z0; replace Z1 := matz_below B M1 Z1; replace M0 := mat_below B M0; replace M1 := mat_below B M1))
      go_roundw
      case rel => exact .inr (.inr (.inr (.inr (.inr (.inr (.inr (.inr (.inr (.inl ⟨rfl, BB.setCell (Nat.le_refl _) _, lims_set M0 (by decide), mat_set_far M1 (by omega), matz_set Z0, matz_set Z1⟩)))))))))
      case measure => simp [intOf]
    · go_wp2_with (first | (refine wpList_mload rfl _ _ rfl matT M0 rfl ?_; go_simp) | (refine wpList_mload rfl _ _ rfl matT M1 rfl ?_; go_simp) | (go_at_call 33; refine (limited_b _ _).mono ?_; rintro _ _ ⟨rfl, B⟩; replace BB := bon BB B; replace Z0 := matz_below B M0 Z0; replace Z1 := matz_below B M1 Z1; replace M0 := mat_below B M0; replace M1 := mat_below B M1))
      go_roundw
      case rel => exact .inr (.inr (.inr (.inr (.inr (.inr (.inr (.inr (.inr (.inr (.inl ⟨rfl, BB.setCell (Nat.le_refl _) _, lims_set M0 (by decide), mat_set_far M1 (by omega), matz_set Z0, matz_set Z1⟩))))))))))
      case measure => simp [intOf]
    · go_wp2_with (first | (refine wpList_mload rfl _ _ rfl matT M0 rfl ?_; go_simp) | (refine wpList_mload rfl _ _ rfl matT M1 rfl ?_; go_simp) | (go_at_call 33; refine (limited_b _ _).mono ?_; rintro _ _ ⟨rfl, B⟩; replace BB := bon BB B; replace Z0 := matz_below B M0 Z0; replace Z1 := matz_below B M1 Z1; replace M0 := mat_below B M0; replace M1 := mat_below B M1))
      go_roundw
      case rel => exact .inr (.inr (.inr (.inr (.inr (.inr (.inr (.inr (.inr (.inr (.inr (.inl ⟨rfl, BB.setCell (Nat.le_refl _) _, lims_set M0 (by decide), mat_set_far M1 (by omega), matz_set Z0, matz_set Z1⟩)))))))))))
      case measure => simp [intOf]
    · go_wp2_with (first | (refine wpList_mload rfl _ _ rfl matT M0 rfl ?_; go_simp) | (refine wpList_mload rfl _ _ rfl matT M1 rfl ?_; go_simp) | (go_at_call 33; refine (limited_b _ _).mono ?_; rintro _ _ ⟨rfl, B⟩; replace BB := bon BB B; replace Z0 := matz_below B M0 Z0; replace Z1 := matz_below B M1 Z1; replace M0 := mat_below B M0; replace M1 := mat_below B M1))
      go_roundw
      case rel => exact .inr (.inr (.inr (.inr (.inr (.inr (.inr (.inr (.inr (.inr (.inr (.inr (.inl ⟨rfl, BB.setCell (Nat.le_refl _) _, lims_set M0 (by decide), mat_set_far M1 (by omega), matz_set Z0, matz_set Z1⟩))))))))))))
      case measure => simp [intOf]
    · go_wp2_with (first | (refine wpList_mload rfl _ _ rfl matT M0 rfl ?_; go_simp) | (refine wpList_mload rfl _ _ rfl matT M1 rfl ?_; go_simp) | (go_at_call 33; refine (limited_b _ _).mono ?_; rintro _ _ ⟨rfl, B⟩; replace BB := bon BB B; replace Z0 := matz_below B M0 Z0; replace Z1 := matz_below B M1 Z1; replace M0 := mat_below B M0; replace M1 := mat_below B M1))
      go_roundw
      case rel => exact .inr (.inr (.inr (.inr (.inr (.inr (.inr (.inr (.inr (.inr (.inr (.inr (.inr (.inl ⟨rfl, BB.setCell (Nat.le_refl _) _, lims_set M0 (by decide), mat_set_far M1 (by omega), matz_set Z0, matz_set Z1⟩)))))))))))))
      case measure => simp [intOf]
    · go_wp2_with (first | (refine wpList_mload rfl _ _ rfl matT M0 rfl ?_; go_simp) | (refine wpList_mload rfl _ _ rfl matT M1 rfl ?_; go_simp) | (go_at_call 33; refine (limited_b _ _).mono ?_; rintro _ _ ⟨rfl, B⟩; replace BB := bon BB B; replace Z0 := matz_below B M0 Z0; replace Z1 := matz_below B M1 Z1; replace M0 := mat_below B M0; replace M1 := mat_below B M1))
      go_roundw
      case rel => exact .inr (.inr (.inr (.inr (.inr (.inr (.inr (.inr (.inr (.inr (.inr (.inr (.inr (.inr (.inl ⟨rfl, BB.setCell (Nat.le_refl _) _, lims_set M0 (by decide), mat_set_far M1 (by omega), matz_set Z0, matz_set Z1⟩))))))))))))))
      case measure => simp [intOf]
    · go_wp2_with (first | (refine wpList_mload rfl _ _ rfl matT M0 rfl ?_; go_simp) | (refine wpList_mload rfl _ _ rfl matT M1 rfl ?_; go_simp) | (go_at_call 33; refine (limited_b _ _).mono ?_; rintro _ _ ⟨rfl, B⟩; replace BB := bon BB B; replace Z0 := matz_below B M0 Z0; replace Z1 := matz_below B M1 Z1; replace M0 := mat_below B M0; replace M1 := mat_below B M1))
      go_roundw
      case rel => exact .inr (.inr (.inr (.inr (.inr (.inr (.inr (.inr (.inr (.inr (.inr (.inr (.inr (.inr (.inr (.inl ⟨rfl, BB.setCell (Nat.le_refl _) _, lims_set M0 (by decide), mat_set_far M1 (by omega), matz_set Z0, matz_set Z1⟩)))))))))))))))
      case measure => simp [intOf]
    · go_wp2_with (first | (refine wpList_mload rfl _ _ rfl matT M0 rfl ?_; go_simp) | (refine wpList_mload rfl _ _ rfl matT M1 rfl ?_; go_simp) | (go_at_call 33; refine (limited_b _ _).mono ?_; rintro _ _ ⟨rfl, B⟩; replace BB := bon BB B; replace Z0 := matz_below B M0 Z0; replace Z1 := matz_below B M1 Z1; replace M0 := mat_below B M0; replace M1 := mat_below B M1))
      go_roundw
      case rel => exact .inr (.inr (.inr (.inr (.inr (.inr (.inr (.inr (.inr (.inr (.inr (.inr (.inr (.inr (.inr (.inr (⟨rfl, BB.setCell (Nat.le_refl _) _, lims_set M0 (by decide), mat_set_far M1 (by omega), matz_set Z0, matz_set Z1⟩))))))))))))))))
      case measure => simp [intOf]
    · replace M0 := mat_to M0 (n := limm m) (fun k hk => if_pos hk)
      go_wp2_with (first | (refine wpList_mload rfl _ _ rfl matT M0 rfl ?_; go_simp) | (refine wpList_mstore rfl 23 _ _ rfl (limm m) rfl rfl (m0 := fun _ => 0) M1 Z1 BB (by omega) matT ?_; intro W' BB' M' Z' _ _ _; clear M0 M1 Z0 Z1 BB))
      exact bodyPost_ret (results_mat Try.results29 matT M' _ rfl) rfl ⟨rfl, BB'⟩

theorem example_apply (w : World) :
    Calls Try.prog 12 #[.agg (mats (trm 65536 0 0)), .agg #[.int .i64 0, .int .i64 0, .int .i64 0, .int .i64 65536]] w fun e w' => e = .returned (.agg #[.int .i64 65536, .int .i64 0, .int .i64 0, .int .i64 65536]) ∧ Below w.heap.size w w' :=
  apply_b (trm 65536 0 0) 0 0 0 65536 w

set_option maxRecDepth 100000 in
theorem example_b (w : World) : Calls Try.prog 18 #[] w fun e w' => e = .returned (.bool true) ∧ Below w.heap.size w w' := by
  have BB : Below w.heap.size w w := Below.refl _ _
  go_enter Try.func18, Try.ntmps18
  go_wp2_with (first | (go_at_call 25; refine (translate_b _ _ _ _).mono ?_; rintro _ _ ⟨rfl, B⟩; replace BB := bon BB B) | (go_at_call 12; refine (example_apply _).mono ?_; rintro _ _ ⟨rfl, B⟩; replace BB := bon BB B))
  go_ret
  exact ⟨rfl, BB⟩

end Go.Proofs.Ytlchecnencbamaa
