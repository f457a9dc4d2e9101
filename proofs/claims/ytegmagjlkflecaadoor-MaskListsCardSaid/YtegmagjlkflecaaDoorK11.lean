/- The six walks in the words of a frame. -/
import Derived.Test.YtegmagjlkflecaaDoorK10
namespace Go.Proofs.YtegmagjlkflecaaDoor
open Go.RowKit Go.ChangeShapes Go.WideShapes

theorem int_rng {a : Int} (h : (Lit.int .i64 a).wf = true) : -9223372036854775808 ≤ a ∧ a ≤ 9223372036854775807 := by
  have e1 : IntKind.i64.min = -9223372036854775808 := rfl
  have e2 : IntKind.i64.max = 9223372036854775807 := rfl
  simp [Lit.wf, e1, e2] at h
  omega

theorem u16_rng {a : Int} (h : (Lit.int .u16 a).wf = true) : ∃ u : Nat, a = u ∧ u < 65536 := by
  have e1 : IntKind.u16.min = 0 := rfl
  have e2 : IntKind.u16.max = 65535 := rfl
  simp [Lit.wf, e1, e2] at h
  exact ⟨a.toNat, by omega, by omega⟩

theorem lists_walk' (a0 : Int) (A : Option Addr) (n c : Nat) (l : List Int) (W : World) (w0 : (Lit.int .u16 a0).wf = true) (R : Rd W W.heap.size .i64 A n l) (hn : n ≤ 9223372036854775807) (hB : BruAt W) :
    Calls Tryd.prog 3 #[.int .u16 a0, .slice A n c] W fun e w' => e = .returned (.bool true) ∧ Below W.heap.size W w' := by
  obtain ⟨s0, rfl, h0⟩ := u16_rng w0
  exact lists_walk s0 A n c l W h0 R hn hB

end Go.Proofs.YtegmagjlkflecaaDoor
