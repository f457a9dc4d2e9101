/- Small facts on worlds to which blocks have been added: no program is named here. -/
import Derived.WalkKit
import Derived.Below
import Derived.Lib.QuietBelow
namespace Go.Proofs.Ytcnemjkcihlpeaa
set_option linter.unusedSimpArgs false
open Go.RowKit Go.Sort

/-- Two steps, each of which only adds blocks. -/
theorem bon {b W W1 : World} (h : Below b.heap.size b W) (k : Below W.heap.size W W1) : Below b.heap.size b W1 :=
  h.trans (k.mono h.size)

theorem cell_below {W W1 : World} {a : Addr} {v : Value} (h : Below W.heap.size W W1) (c : W.cell? a = some v) : W1.cell? a = some v :=
  (h.cell (block_lt_of_cell c)).trans c

theorem below_regrown' {W W1 : World} (h : ∃ p : Regrown, W1 = grow (redrawn W p.d) p.os) : Below W.heap.size W W1 := by
  obtain ⟨p, rfl⟩ := h; exact below_regrown _ _ _

/-- A cell of a new block. -/
theorem box_cell (w : World) (cs : Array Value) (t : TypeId) (i : Nat) (v : Value) (h : cs[i]? = some v) : (w.alloc (.cells cs t)).cell? ⟨w.heap.size, i, none⟩ = some v := by
  simp [h]
theorem box_below (w : World) (cs : Array Value) (t : TypeId) : Below w.heap.size w (w.alloc (.cells cs t)) := (Below.refl _ _).alloc (Nat.le_refl _) _
/-- A cell of a new block behind a world that has grown. -/
theorem box_on {b W : World} (BB : Below b.heap.size b W) (cs : Array Value) (t : TypeId) : Below W.heap.size W (W.alloc (.cells cs t)) ∧ Below b.heap.size b (W.alloc (.cells cs t)) :=
  ⟨box_below W cs t, bon BB (box_below W cs t)⟩

/-- A new block of four cells. -/
theorem box4 (w : World) (x y z u : Value) (t : TypeId) :
    (w.alloc (.cells #[x, y, z, u] t)).cell? ⟨w.heap.size, 0, none⟩ = some x ∧ (w.alloc (.cells #[x, y, z, u] t)).cell? ⟨w.heap.size, 1, none⟩ = some y ∧
    (w.alloc (.cells #[x, y, z, u] t)).cell? ⟨w.heap.size, 2, none⟩ = some z ∧ (w.alloc (.cells #[x, y, z, u] t)).cell? ⟨w.heap.size, 3, none⟩ = some u ∧ Below w.heap.size w (w.alloc (.cells #[x, y, z, u] t)) := by
  refine ⟨by simp, by simp, by simp, by simp, box_below _ _ _⟩
theorem box4_on {b W : World} (BB : Below b.heap.size b W) (x y z u : Value) (t : TypeId) :
    Below W.heap.size W (W.alloc (.cells #[x, y, z, u] t)) ∧ (W.alloc (.cells #[x, y, z, u] t)).cell? ⟨W.heap.size, 0, none⟩ = some x ∧ (W.alloc (.cells #[x, y, z, u] t)).cell? ⟨W.heap.size, 1, none⟩ = some y ∧
    (W.alloc (.cells #[x, y, z, u] t)).cell? ⟨W.heap.size, 2, none⟩ = some z ∧ (W.alloc (.cells #[x, y, z, u] t)).cell? ⟨W.heap.size, 3, none⟩ = some u ∧ Below b.heap.size b (W.alloc (.cells #[x, y, z, u] t)) := by
  obtain ⟨h0, h1, h2, h3, h4⟩ := box4 W x y z u t
  exact ⟨h4, h0, h1, h2, h3, bon BB h4⟩

/-- A new block of three cells. -/
theorem box3 (w : World) (x y z : Value) (t : TypeId) :
    (w.alloc (.cells #[x, y, z] t)).cell? ⟨w.heap.size, 0, none⟩ = some x ∧ (w.alloc (.cells #[x, y, z] t)).cell? ⟨w.heap.size, 1, none⟩ = some y ∧
    (w.alloc (.cells #[x, y, z] t)).cell? ⟨w.heap.size, 2, none⟩ = some z ∧ Below w.heap.size w (w.alloc (.cells #[x, y, z] t)) := by
  refine ⟨by simp, by simp, by simp, (Below.refl _ _).alloc (Nat.le_refl _) _⟩

/-- A new block of three cells behind a world that has grown. -/
theorem box3_on {b W : World} (BB : Below b.heap.size b W) (x y z : Value) (t : TypeId) :
    Below W.heap.size W (W.alloc (.cells #[x, y, z] t)) ∧ (W.alloc (.cells #[x, y, z] t)).cell? ⟨W.heap.size, 0, none⟩ = some x ∧ (W.alloc (.cells #[x, y, z] t)).cell? ⟨W.heap.size, 1, none⟩ = some y ∧
    (W.alloc (.cells #[x, y, z] t)).cell? ⟨W.heap.size, 2, none⟩ = some z ∧ Below b.heap.size b (W.alloc (.cells #[x, y, z] t)) := by
  obtain ⟨h0, h1, h2, h3⟩ := box3 W x y z t
  exact ⟨h3, h0, h1, h2, bon BB h3⟩

theorem frozen_below {W W1 : World} {a : Addr} {v : Value} {b : Bool} (h : Below W.heap.size W W1) (c : W.cell? a = some v) (f : W.frozen? a = b) : W1.frozen? a = b :=
  (h.frozen (block_lt_of_cell c)).trans f

end Go.Proofs.Ytcnemjkcihlpeaa
