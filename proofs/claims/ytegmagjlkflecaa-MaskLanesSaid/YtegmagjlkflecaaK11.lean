/- The six walks in the words of a frame. -/
import Derived.Test.YtegmagjlkflecaaK10
namespace Go.Proofs.Ytegmagjlkflecaa
open Go.RowKit Go.ChangeShapes Go.WideShapes

theorem int_rng {a : Int} (h : (Lit.int .i64 a).wf = true) : -9223372036854775808 ≤ a ∧ a ≤ 9223372036854775807 := by
  have e1 : IntKind.i64.min = -9223372036854775808 := rfl
  have e2 : IntKind.i64.max = 9223372036854775807 := rfl
  simp [Lit.wf, e1, e2] at h
  omega

theorem u16_rng {a : Int} (h : (Lit.int .u16 a).wf = true) : ∃ u : Nat, a = u ∧ u < 65536 := by
  have e1 : IntKind.u16.min = 0 := rfl
  have e2 : IntKind.u16.max = 65535 := rfl
  simp [Lit.wf, e1, e2] at h
  exact ⟨a.toNat, by omega, by omega⟩

theorem lanes_walk' (a0 : Int) (a1 : Int) (W : World) (w0 : (Lit.int .u16 a0).wf = true) (w1 : (Lit.int .i64 a1).wf = true) :
    Calls Try.prog 3 #[.int .u16 a0, .int .i64 a1] W fun e w' => e = .returned (.bool true) ∧ Below W.heap.size W w' := by
  obtain ⟨s0, rfl, h0⟩ := u16_rng w0
  exact lanes_walk s0 a1 W h0 (int_rng w1).1 (int_rng w1).2

theorem operations_walk' (a0 : Int) (a1 : Int) (W : World) (w0 : (Lit.int .u16 a0).wf = true) (w1 : (Lit.int .u16 a1).wf = true) :
    Calls Try.prog 4 #[.int .u16 a0, .int .u16 a1] W fun e w' => e = .returned (.bool true) ∧ Below W.heap.size W w' := by
  obtain ⟨s0, rfl, h0⟩ := u16_rng w0
  obtain ⟨s1, rfl, h1⟩ := u16_rng w1
  exact operations_walk s0 s1 W h0 h1

theorem sets_walk' (a0 : Int) (a1 : Int) (a2 : Int) (W : World) (w0 : (Lit.int .u16 a0).wf = true) (w1 : (Lit.int .u16 a1).wf = true) :
    Calls Try.prog 5 #[.int .u16 a0, .int .u16 a1, .int .i64 a2] W fun e w' => e = .returned (.bool true) ∧ Below W.heap.size W w' := by
  obtain ⟨s0, rfl, h0⟩ := u16_rng w0
  obtain ⟨s1, rfl, h1⟩ := u16_rng w1
  exact sets_walk s0 s1 a2 W h0 h1

theorem counts_walk' (a0 : Int) (a1 : Int) (a2 : Int) (W : World) (w0 : (Lit.int .u16 a0).wf = true) (w1 : (Lit.int .u16 a1).wf = true) :
    Calls Try.prog 6 #[.int .u16 a0, .int .u16 a1, .int .i64 a2] W fun e w' => e = .returned (.bool true) ∧ Below W.heap.size W w' := by
  obtain ⟨s0, rfl, h0⟩ := u16_rng w0
  obtain ⟨s1, rfl, h1⟩ := u16_rng w1
  exact counts_walk s0 s1 a2 W h0 h1

theorem texts_walk' (a0 : Int) (a1 : Int) (W : World) (w0 : (Lit.int .u16 a0).wf = true) :
    Calls Try.prog 7 #[.int .u16 a0, .int .i64 a1] W fun e w' => e = .returned (.bool true) ∧ Below W.heap.size W w' := by
  obtain ⟨s0, rfl, h0⟩ := u16_rng w0
  exact texts_walk s0 a1 W h0

end Go.Proofs.Ytegmagjlkflecaa
