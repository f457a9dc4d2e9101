/- What Of returns, of the code and of the reference. -/
import Derived.Test.YtlchecnencbamaaVRef3
import Derived.Laws.IdiomCopy
import Derived.WideShapes
namespace Go.Proofs.Ytlchecnencbamaa
open Go.RowKit Go.Sort

/-- Element k of a list of n numbers, or 0. -/
def ofv (n k : Nat) (g : Int) : Int := if k < n then g else 0

theorem argsde (w : World) (e0 e1 e2 e3 : Value) (t u : TypeId) :
    Below w.heap.size w ((w.alloc (.cells #[.int .i64 0, .int .i64 0, .int .i64 0, .int .i64 0] t)).alloc (.cells #[e0, e1, e2, e3] u)) ∧
    ((w.alloc (.cells #[.int .i64 0, .int .i64 0, .int .i64 0, .int .i64 0] t)).alloc (.cells #[e0, e1, e2, e3] u)).cell? ⟨w.heap.size, 0, none⟩ = some (.int .i64 0) ∧
    ((w.alloc (.cells #[.int .i64 0, .int .i64 0, .int .i64 0, .int .i64 0] t)).alloc (.cells #[e0, e1, e2, e3] u)).cell? ⟨w.heap.size, 1, none⟩ = some (.int .i64 0) ∧
    ((w.alloc (.cells #[.int .i64 0, .int .i64 0, .int .i64 0, .int .i64 0] t)).alloc (.cells #[e0, e1, e2, e3] u)).cell? ⟨w.heap.size, 2, none⟩ = some (.int .i64 0) ∧
    ((w.alloc (.cells #[.int .i64 0, .int .i64 0, .int .i64 0, .int .i64 0] t)).alloc (.cells #[e0, e1, e2, e3] u)).cell? ⟨w.heap.size, 3, none⟩ = some (.int .i64 0) ∧
    ((w.alloc (.cells #[.int .i64 0, .int .i64 0, .int .i64 0, .int .i64 0] t)).alloc (.cells #[e0, e1, e2, e3] u)).cell? ⟨w.heap.size + 1, 0, none⟩ = some (e0) ∧
    ((w.alloc (.cells #[.int .i64 0, .int .i64 0, .int .i64 0, .int .i64 0] t)).alloc (.cells #[e0, e1, e2, e3] u)).cell? ⟨w.heap.size + 1, 1, none⟩ = some (e1) ∧
    ((w.alloc (.cells #[.int .i64 0, .int .i64 0, .int .i64 0, .int .i64 0] t)).alloc (.cells #[e0, e1, e2, e3] u)).cell? ⟨w.heap.size + 1, 2, none⟩ = some (e2) ∧
    ((w.alloc (.cells #[.int .i64 0, .int .i64 0, .int .i64 0, .int .i64 0] t)).alloc (.cells #[e0, e1, e2, e3] u)).cell? ⟨w.heap.size + 1, 3, none⟩ = some (e3) ∧
    ((w.alloc (.cells #[.int .i64 0, .int .i64 0, .int .i64 0, .int .i64 0] t)).alloc (.cells #[e0, e1, e2, e3] u)).frozen? ⟨w.heap.size, 0, none⟩ = false ∧
    ((w.alloc (.cells #[.int .i64 0, .int .i64 0, .int .i64 0, .int .i64 0] t)).alloc (.cells #[e0, e1, e2, e3] u)).frozen? ⟨w.heap.size, 1, none⟩ = false ∧
    ((w.alloc (.cells #[.int .i64 0, .int .i64 0, .int .i64 0, .int .i64 0] t)).alloc (.cells #[e0, e1, e2, e3] u)).frozen? ⟨w.heap.size, 2, none⟩ = false ∧
    ((w.alloc (.cells #[.int .i64 0, .int .i64 0, .int .i64 0, .int .i64 0] t)).alloc (.cells #[e0, e1, e2, e3] u)).frozen? ⟨w.heap.size, 3, none⟩ = false := by
  have BB : Below w.heap.size w w := Below.refl _ _
  have z0 : w.heap.size = w.heap.size := by simp
  obtain ⟨B, BB⟩ := box_on BB #[.int .i64 0, .int .i64 0, .int .i64 0, .int .i64 0] t
  have p0_0 := box_cell w #[.int .i64 0, .int .i64 0, .int .i64 0, .int .i64 0] t 0 _ rfl
  have p0_1 := box_cell w #[.int .i64 0, .int .i64 0, .int .i64 0, .int .i64 0] t 1 _ rfl
  have p0_2 := box_cell w #[.int .i64 0, .int .i64 0, .int .i64 0, .int .i64 0] t 2 _ rfl
  have p0_3 := box_cell w #[.int .i64 0, .int .i64 0, .int .i64 0, .int .i64 0] t 3 _ rfl
  rw [z0] at p0_0 p0_1 p0_2 p0_3
  have f0_0 : (w.alloc (.cells #[.int .i64 0, .int .i64 0, .int .i64 0, .int .i64 0] t)).frozen? ⟨w.heap.size, 0, none⟩ = false := by rw [frozen?_alloc_cells]; unfold World.frozen?; simp
  have f0_1 : (w.alloc (.cells #[.int .i64 0, .int .i64 0, .int .i64 0, .int .i64 0] t)).frozen? ⟨w.heap.size, 1, none⟩ = false := by rw [frozen?_alloc_cells]; unfold World.frozen?; simp
  have f0_2 : (w.alloc (.cells #[.int .i64 0, .int .i64 0, .int .i64 0, .int .i64 0] t)).frozen? ⟨w.heap.size, 2, none⟩ = false := by rw [frozen?_alloc_cells]; unfold World.frozen?; simp
  have f0_3 : (w.alloc (.cells #[.int .i64 0, .int .i64 0, .int .i64 0, .int .i64 0] t)).frozen? ⟨w.heap.size, 3, none⟩ = false := by rw [frozen?_alloc_cells]; unfold World.frozen?; simp
  have z1 : (w.alloc (.cells #[.int .i64 0, .int .i64 0, .int .i64 0, .int .i64 0] t)).heap.size = w.heap.size + 1 := by simp
  obtain ⟨B, BB⟩ := box_on BB #[e0, e1, e2, e3] u
  replace f0_0 := frozen_below B p0_0 f0_0
  replace f0_1 := frozen_below B p0_1 f0_1
  replace f0_2 := frozen_below B p0_2 f0_2
  replace f0_3 := frozen_below B p0_3 f0_3
  replace p0_0 := cell_below B p0_0
  replace p0_1 := cell_below B p0_1
  replace p0_2 := cell_below B p0_2
  replace p0_3 := cell_below B p0_3
  have p1_0 := box_cell (w.alloc (.cells #[.int .i64 0, .int .i64 0, .int .i64 0, .int .i64 0] t)) #[e0, e1, e2, e3] u 0 _ rfl
  have p1_1 := box_cell (w.alloc (.cells #[.int .i64 0, .int .i64 0, .int .i64 0, .int .i64 0] t)) #[e0, e1, e2, e3] u 1 _ rfl
  have p1_2 := box_cell (w.alloc (.cells #[.int .i64 0, .int .i64 0, .int .i64 0, .int .i64 0] t)) #[e0, e1, e2, e3] u 2 _ rfl
  have p1_3 := box_cell (w.alloc (.cells #[.int .i64 0, .int .i64 0, .int .i64 0, .int .i64 0] t)) #[e0, e1, e2, e3] u 3 _ rfl
  rw [z1] at p1_0 p1_1 p1_2 p1_3
  exact ⟨BB, p0_0, p0_1, p0_2, p0_3, p1_0, p1_1, p1_2, p1_3, f0_0, f0_1, f0_2, f0_3⟩

theorem sliceI : Try.prog.underlying 53 = some (.slice 3) := Try.underlying53
theorem sizeI : (Try.prog.info? 3).map (·.size) = some 1 := by kernel_rfl

theorem add_lit' (b off j : Nat) : (⟨b, off, none⟩ : Addr).add j = ⟨b, off + j, none⟩ := Go.WideShapes.add_plain b off j

theorem copy_cells (w : World) (b off n cap : Nat) (cs : List Value) (hb : b < w.heap.size) (ty : TypeId) (hm : cs.length = Nat.min n 4) (hl : cs.length ≤ 4) (hs : ∀ j v, cs[j]? = some v → w.cell? ⟨b, off + j, none⟩ = some v) (h1 : ∀ v ∈ cs, v.oneCell' = true) :
    (Builtin.copy_ #[53, 53] ty #[.slice (some ⟨w.heap.size + 1, 0, none⟩) 4 4, .slice (some ⟨b, off, none⟩) n cap]).run Try.prog ((w.alloc (.cells #[.int .i64 0, .int .i64 0, .int .i64 0, .int .i64 0] 25)).alloc (.cells #[.int .i64 0, .int .i64 0, .int .i64 0, .int .i64 0] 49)) =
      .ok (goInt cs.length) (((w.alloc (.cells #[.int .i64 0, .int .i64 0, .int .i64 0, .int .i64 0] 25)).alloc (.cells #[.int .i64 0, .int .i64 0, .int .i64 0, .int .i64 0] 49)).setCells (w.heap.size + 1) 0 cs) := by
  obtain ⟨BB, d0, d1, d2, d3, e0, e1, e2, e3, f0, f1, f2, f3, g0, g1, g2, g3⟩ := argsoo w 25 49
  have hc : ∀ j, j < 4 → (((w.alloc (.cells #[.int .i64 0, .int .i64 0, .int .i64 0, .int .i64 0] 25)).alloc (.cells #[.int .i64 0, .int .i64 0, .int .i64 0, .int .i64 0] 49)).cell? ⟨w.heap.size + 1, 0 + j, none⟩).isSome = true ∧ ((w.alloc (.cells #[.int .i64 0, .int .i64 0, .int .i64 0, .int .i64 0] 25)).alloc (.cells #[.int .i64 0, .int .i64 0, .int .i64 0, .int .i64 0] 49)).frozen? ⟨w.heap.size + 1, 0 + j, none⟩ = false := fun j hj => by
    have hj4 : j = 0 ∨ j = 1 ∨ j = 2 ∨ j = 3 := by omega
    rw [Nat.zero_add]
    rcases hj4 with rfl | rfl | rfl | rfl
    · exact ⟨by rw [e0]; rfl, g0⟩
    · exact ⟨by rw [e1]; rfl, g1⟩
    · exact ⟨by rw [e2]; rfl, g2⟩
    · exact ⟨by rw [e3]; rfl, g3⟩
  exact run_copy_cells (P := Try.prog) _ 53 53 ty 3 (w.heap.size + 1) 0 4 4 ⟨b, off, none⟩ n cap cs sliceI sizeI hm
    (fun j v hj => by rw [add_lit']; exact (BB.cell (p := ⟨b, off + j, none⟩) hb).trans (hs j v hj)) (fun j hj => (hc j (by omega)).1) (fun j hj => (hc j (by omega)).2) h1

theorem of_nil (p : Option Addr) (cap : Nat) (w : World) :
    Calls Try.prog 35 #[.slice p 0 cap] w fun e w' => e = .returned (.agg #[.int .i64 0, .int .i64 0, .int .i64 0, .int .i64 0]) ∧ Below w.heap.size w w' := by
  obtain ⟨BB, d0, d1, d2, d3, e0, e1, e2, e3, f0, f1, f2, f3⟩ := argsde w (.int .i64 0) (.int .i64 0) (.int .i64 0) (.int .i64 0) 25 49
  have hcopy : ∀ ty w, (Builtin.copy_ #[53, 53] ty #[.slice (some ⟨w.heap.size + 1, 0, none⟩) 4 4, .slice p 0 cap]).run Try.prog w = .ok (.int .i64 0) w := fun ty w => run_copy_none w _ _ ty 3 _ _ _ _ _ _ sliceI sizeI (by simp)
  have hcopy2 : ∀ ty w b, (Builtin.copy_ #[53, 53] ty #[.slice (some b) 4 4, .slice p 0 cap]).run Try.prog w = .ok (.int .i64 0) w := fun ty w b => run_copy_none w _ _ ty 3 _ _ _ _ _ _ sliceI sizeI (by simp)
  clear hcopy
  go_enter Try.func35, Try.ntmps35
  go_wp2_with (first | (go_at_call 53; refine (fromarr_b _ _ _ _ _).mono ?_; rintro _ _ ⟨rfl, B⟩; replace BB := bon BB B; replace f0 := frozen_below B d0 f0; replace f1 := frozen_below B d1 f1; replace f2 := frozen_below B d2 f2; replace f3 := frozen_below B d3 f3; replace d0 := cell_below B d0; replace d1 := cell_below B d1; replace d2 := cell_below B d2; replace d3 := cell_below B d3))
  exact bodyPost_ret (v := .agg #[.int .i64 0, .int .i64 0, .int .i64 0, .int .i64 0]) (by simp [results, Try.results35, go_sem, *]) rfl ⟨rfl, ((((BB.setCell (by simp) _).setCell (by simp) _).setCell (by simp) _).setCell (by simp) _)⟩

theorem of_1 (b off cap : Nat) (g0 : Int) (w : World) (h0 : w.cell? ⟨b, off, none⟩ = some (.int .i64 g0)) :
    Calls Try.prog 35 #[.slice (some ⟨b, off, none⟩) 1 cap] w fun e w' => e = .returned (.agg #[.int .i64 g0, .int .i64 0, .int .i64 0, .int .i64 0]) ∧ Below w.heap.size w w' := by
  have hcopy : ∀ ty, (Builtin.copy_ #[53, 53] ty #[.slice (some ⟨w.heap.size + 1, 0, none⟩) 4 4, .slice (some ⟨b, off, none⟩) 1 cap]).run Try.prog ((w.alloc (.cells #[.int .i64 0, .int .i64 0, .int .i64 0, .int .i64 0] 25)).alloc (.cells #[.int .i64 0, .int .i64 0, .int .i64 0, .int .i64 0] 49)) =
      .ok (.int .i64 1) ((w.alloc (.cells #[.int .i64 0, .int .i64 0, .int .i64 0, .int .i64 0] 25)).alloc (.cells #[.int .i64 g0, .int .i64 0, .int .i64 0, .int .i64 0] 49)) := fun ty => by
    rw [copy_cells w b off 1 cap [.int .i64 g0] (block_lt_of_cell h0) ty (by simp) (by simp) (fun j v hj => by
      match j, hj with
      | 0, hj => simp at hj; subst hj; exact h0
      | j + 1, hj => simp at hj) (by simp [Value.oneCell'])]
    simp [World.setCells, goInt, World.setCell_alloc_at]
  obtain ⟨BB, d0, d1, d2, d3, e0, e1, e2, e3, f0, f1, f2, f3⟩ := argsde w (.int .i64 g0) (.int .i64 0) (.int .i64 0) (.int .i64 0) 25 49
  clear h0
  go_enter Try.func35, Try.ntmps35
  go_wp2_with (first | (go_at_call 53; refine (fromarr_b _ _ _ _ _).mono ?_; rintro _ _ ⟨rfl, B⟩; replace BB := bon BB B; replace f0 := frozen_below B d0 f0; replace f1 := frozen_below B d1 f1; replace f2 := frozen_below B d2 f2; replace f3 := frozen_below B d3 f3; replace d0 := cell_below B d0; replace d1 := cell_below B d1; replace d2 := cell_below B d2; replace d3 := cell_below B d3))
  exact bodyPost_ret (v := .agg #[.int .i64 g0, .int .i64 0, .int .i64 0, .int .i64 0]) (by simp [results, Try.results35, go_sem, *]) rfl ⟨rfl, ((((BB.setCell (by simp) _).setCell (by simp) _).setCell (by simp) _).setCell (by simp) _)⟩

theorem of_2 (b off cap : Nat) (g0 g1 : Int) (w : World) (h0 : w.cell? ⟨b, off, none⟩ = some (.int .i64 g0)) (h1 : w.cell? ⟨b, off + 1, none⟩ = some (.int .i64 g1)) :
    Calls Try.prog 35 #[.slice (some ⟨b, off, none⟩) 2 cap] w fun e w' => e = .returned (.agg #[.int .i64 g0, .int .i64 g1, .int .i64 0, .int .i64 0]) ∧ Below w.heap.size w w' := by
  have hcopy : ∀ ty, (Builtin.copy_ #[53, 53] ty #[.slice (some ⟨w.heap.size + 1, 0, none⟩) 4 4, .slice (some ⟨b, off, none⟩) 2 cap]).run Try.prog ((w.alloc (.cells #[.int .i64 0, .int .i64 0, .int .i64 0, .int .i64 0] 25)).alloc (.cells #[.int .i64 0, .int .i64 0, .int .i64 0, .int .i64 0] 49)) =
      .ok (.int .i64 2) ((w.alloc (.cells #[.int .i64 0, .int .i64 0, .int .i64 0, .int .i64 0] 25)).alloc (.cells #[.int .i64 g0, .int .i64 g1, .int .i64 0, .int .i64 0] 49)) := fun ty => by
    rw [copy_cells w b off 2 cap [.int .i64 g0, .int .i64 g1] (block_lt_of_cell h0) ty (by simp) (by simp) (fun j v hj => by
      match j, hj with
      | 0, hj => simp at hj; subst hj; exact h0
      | 1, hj => simp at hj; subst hj; exact h1
      | j + 2, hj => simp at hj) (by simp [Value.oneCell'])]
    simp [World.setCells, goInt, World.setCell_alloc_at]
  obtain ⟨BB, d0, d1, d2, d3, e0, e1, e2, e3, f0, f1, f2, f3⟩ := argsde w (.int .i64 g0) (.int .i64 g1) (.int .i64 0) (.int .i64 0) 25 49
  clear h0 h1
  go_enter Try.func35, Try.ntmps35
  go_wp2_with (first | (go_at_call 53; refine (fromarr_b _ _ _ _ _).mono ?_; rintro _ _ ⟨rfl, B⟩; replace BB := bon BB B; replace f0 := frozen_below B d0 f0; replace f1 := frozen_below B d1 f1; replace f2 := frozen_below B d2 f2; replace f3 := frozen_below B d3 f3; replace d0 := cell_below B d0; replace d1 := cell_below B d1; replace d2 := cell_below B d2; replace d3 := cell_below B d3))
  exact bodyPost_ret (v := .agg #[.int .i64 g0, .int .i64 g1, .int .i64 0, .int .i64 0]) (by simp [results, Try.results35, go_sem, *]) rfl ⟨rfl, ((((BB.setCell (by simp) _).setCell (by simp) _).setCell (by simp) _).setCell (by simp) _)⟩

theorem of_3 (b off cap : Nat) (g0 g1 g2 : Int) (w : World) (h0 : w.cell? ⟨b, off, none⟩ = some (.int .i64 g0)) (h1 : w.cell? ⟨b, off + 1, none⟩ = some (.int .i64 g1)) (h2 : w.cell? ⟨b, off + 2, none⟩ = some (.int .i64 g2)) :
    Calls Try.prog 35 #[.slice (some ⟨b, off, none⟩) 3 cap] w fun e w' => e = .returned (.agg #[.int .i64 g0, .int .i64 g1, .int .i64 g2, .int .i64 0]) ∧ Below w.heap.size w w' := by
  have hcopy : ∀ ty, (Builtin.copy_ #[53, 53] ty #[.slice (some ⟨w.heap.size + 1, 0, none⟩) 4 4, .slice (some ⟨b, off, none⟩) 3 cap]).run Try.prog ((w.alloc (.cells #[.int .i64 0, .int .i64 0, .int .i64 0, .int .i64 0] 25)).alloc (.cells #[.int .i64 0, .int .i64 0, .int .i64 0, .int .i64 0] 49)) =
      .ok (.int .i64 3) ((w.alloc (.cells #[.int .i64 0, .int .i64 0, .int .i64 0, .int .i64 0] 25)).alloc (.cells #[.int .i64 g0, .int .i64 g1, .int .i64 g2, .int .i64 0] 49)) := fun ty => by
    rw [copy_cells w b off 3 cap [.int .i64 g0, .int .i64 g1, .int .i64 g2] (block_lt_of_cell h0) ty (by simp) (by simp) (fun j v hj => by
      match j, hj with
      | 0, hj => simp at hj; subst hj; exact h0
      | 1, hj => simp at hj; subst hj; exact h1
      | 2, hj => simp at hj; subst hj; exact h2
      | j + 3, hj => simp at hj) (by simp [Value.oneCell'])]
    simp [World.setCells, goInt, World.setCell_alloc_at]
  obtain ⟨BB, d0, d1, d2, d3, e0, e1, e2, e3, f0, f1, f2, f3⟩ := argsde w (.int .i64 g0) (.int .i64 g1) (.int .i64 g2) (.int .i64 0) 25 49
  clear h0 h1 h2
  go_enter Try.func35, Try.ntmps35
  go_wp2_with (first | (go_at_call 53; refine (fromarr_b _ _ _ _ _).mono ?_; rintro _ _ ⟨rfl, B⟩; replace BB := bon BB B; replace f0 := frozen_below B d0 f0; replace f1 := frozen_below B d1 f1; replace f2 := frozen_below B d2 f2; replace f3 := frozen_below B d3 f3; replace d0 := cell_below B d0; replace d1 := cell_below B d1; replace d2 := cell_below B d2; replace d3 := cell_below B d3))
  exact bodyPost_ret (v := .agg #[.int .i64 g0, .int .i64 g1, .int .i64 g2, .int .i64 0]) (by simp [results, Try.results35, go_sem, *]) rfl ⟨rfl, ((((BB.setCell (by simp) _).setCell (by simp) _).setCell (by simp) _).setCell (by simp) _)⟩

theorem of_4 (b off n cap : Nat) (g0 g1 g2 g3 : Int) (w : World) (hn : 4 ≤ n) (h0 : w.cell? ⟨b, off, none⟩ = some (.int .i64 g0)) (h1 : w.cell? ⟨b, off + 1, none⟩ = some (.int .i64 g1)) (h2 : w.cell? ⟨b, off + 2, none⟩ = some (.int .i64 g2)) (h3 : w.cell? ⟨b, off + 3, none⟩ = some (.int .i64 g3)) :
    Calls Try.prog 35 #[.slice (some ⟨b, off, none⟩) n cap] w fun e w' => e = .returned (.agg #[.int .i64 g0, .int .i64 g1, .int .i64 g2, .int .i64 g3]) ∧ Below w.heap.size w w' := by
  have hcopy : ∀ ty, (Builtin.copy_ #[53, 53] ty #[.slice (some ⟨w.heap.size + 1, 0, none⟩) 4 4, .slice (some ⟨b, off, none⟩) n cap]).run Try.prog ((w.alloc (.cells #[.int .i64 0, .int .i64 0, .int .i64 0, .int .i64 0] 25)).alloc (.cells #[.int .i64 0, .int .i64 0, .int .i64 0, .int .i64 0] 49)) =
      .ok (.int .i64 4) ((w.alloc (.cells #[.int .i64 0, .int .i64 0, .int .i64 0, .int .i64 0] 25)).alloc (.cells #[.int .i64 g0, .int .i64 g1, .int .i64 g2, .int .i64 g3] 49)) := fun ty => by
    rw [copy_cells w b off n cap [.int .i64 g0, .int .i64 g1, .int .i64 g2, .int .i64 g3] (block_lt_of_cell h0) ty ((Nat.min_eq_right hn).symm) (by simp) (fun j v hj => by
      match j, hj with
      | 0, hj => simp at hj; subst hj; exact h0
      | 1, hj => simp at hj; subst hj; exact h1
      | 2, hj => simp at hj; subst hj; exact h2
      | 3, hj => simp at hj; subst hj; exact h3
      | j + 4, hj => simp at hj) (by simp [Value.oneCell'])]
    simp [World.setCells, goInt, World.setCell_alloc_at]
  obtain ⟨BB, d0, d1, d2, d3, e0, e1, e2, e3, f0, f1, f2, f3⟩ := argsde w (.int .i64 g0) (.int .i64 g1) (.int .i64 g2) (.int .i64 g3) 25 49
  clear h0 h1 h2 h3
  go_enter Try.func35, Try.ntmps35
  go_wp2_with (first | (go_at_call 53; refine (fromarr_b _ _ _ _ _).mono ?_; rintro _ _ ⟨rfl, B⟩; replace BB := bon BB B; replace f0 := frozen_below B d0 f0; replace f1 := frozen_below B d1 f1; replace f2 := frozen_below B d2 f2; replace f3 := frozen_below B d3 f3; replace d0 := cell_below B d0; replace d1 := cell_below B d1; replace d2 := cell_below B d2; replace d3 := cell_below B d3))
  exact bodyPost_ret (v := .agg #[.int .i64 g0, .int .i64 g1, .int .i64 g2, .int .i64 g3]) (by simp [results, Try.results35, go_sem, *]) rfl ⟨rfl, ((((BB.setCell (by simp) _).setCell (by simp) _).setCell (by simp) _).setCell (by simp) _)⟩

end Go.Proofs.Ytlchecnencbamaa
