/- The six walks in the words of a frame. -/
import Derived.Test.YtannnoncdioifaaA3
namespace Go.Proofs.Ytannnoncdioifaa
open Go.RowKit Go.ChangeShapes Go.WideShapes

theorem aint_rng {a : Int} (h : (Lit.int .i64 a).wf = true) : -9223372036854775808 ≤ a ∧ a ≤ 9223372036854775807 := by
  have e1 : IntKind.i64.min = -9223372036854775808 := rfl
  have e2 : IntKind.i64.max = 9223372036854775807 := rfl
  simp [Lit.wf, e1, e2] at h
  omega

theorem aof_same {P : Program} {f : FuncId} {args : Array Value} {w : World} {v : Value} (h : Calls P f args w fun e w' => e = .returned v ∧ w = w') : Calls P f args w fun e w' => e = .returned v ∧ Below w.heap.size w w' :=
  h.mono fun _ _ ⟨h1, h2⟩ => ⟨h1, h2 ▸ Below.refl _ _⟩

theorem modes_walk' (a0 a1 a2 : Int) (W : World) (w2 : (Lit.int .i64 a2).wf = true) : Calls Try.prog 3 #[.int .i64 a0, .int .i64 a1, .int .i64 a2] W fun e w' => e = .returned (.bool true) ∧ Below W.heap.size W w' := aof_same (modes_walk a0 a1 a2 W (aint_rng w2).2)

theorem index_walk' (a0 a1 a2 : Int) (W : World) : Calls Try.prog 4 #[.int .i64 a0, .int .i64 a1, .int .i64 a2] W fun e w' => e = .returned (.bool true) ∧ Below W.heap.size W w' := aof_same (index_walk a0 a1 a2 W)

theorem pairs_walk' (a0 a1 a2 : Int) (W : World) (w1 : (Lit.int .i64 a1).wf = true) : Calls Try.prog 5 #[.int .i64 a0, .int .i64 a1, .int .i64 a2] W fun e w' => e = .returned (.bool true) ∧ Below W.heap.size W w' := aof_same (pairs_walk a0 a1 a2 W (aint_rng w1).1 (aint_rng w1).2)

theorem inside_walk' (a0 a1 a2 : Int) (W : World) : Calls Try.prog 6 #[.int .i64 a0, .int .i64 a1, .int .i64 a2] W fun e w' => e = .returned (.bool true) ∧ Below W.heap.size W w' := aof_same (inside_walk a0 a1 a2 W)

theorem period_walk' (a0 a1 a2 : Int) (W : World) : Calls Try.prog 7 #[.int .i64 a0, .int .i64 a1, .int .i64 a2] W fun e w' => e = .returned (.bool true) ∧ Below W.heap.size W w' := aof_same (period_walk a0 a1 a2 W)

theorem mirror_walk' (a0 a1 : Int) (W : World) : Calls Try.prog 8 #[.int .i64 a0, .int .i64 a1] W fun e w' => e = .returned (.bool true) ∧ Below W.heap.size W w' := aof_same (mirror_walk a0 a1 W)

end Go.Proofs.Ytannnoncdioifaa
