/- The seven walks in the words of a frame. -/
import Derived.Test.YtjlgekfgldmkhaaP13
import Derived.Test.YtjlgekfgldmkhaaStrsFrame
namespace Go.Proofs.Ytjlgekfgldmkhaa
open Go.RowKit Go.ChangeShapes Go.WideShapes

theorem int_rng {a : Int} (h : (Lit.int .i64 a).wf = true) : -9223372036854775808 ≤ a ∧ a ≤ 9223372036854775807 := by
  have e1 : IntKind.i64.min = -9223372036854775808 := rfl
  have e2 : IntKind.i64.max = 9223372036854775807 := rfl
  simp [Lit.wf, e1, e2] at h
  omega

theorem u64_rng {a : Int} (h : (Lit.int .u64 a).wf = true) : ∃ u : Nat, a = u ∧ u < 18446744073709551616 := by
  have e1 : IntKind.u64.min = 0 := rfl
  have e2 : IntKind.u64.max = 18446744073709551615 := rfl
  simp [Lit.wf, e1, e2] at h
  exact ⟨a.toNat, by omega, by omega⟩

theorem injective_walk' (a b : Int) (w : World) (h1 : (Lit.int .u64 a).wf = true) (h2 : (Lit.int .u64 b).wf = true) :
    Calls Try.prog 8 #[.int .u64 a, .int .u64 b] w fun e w' => e = .returned (.bool true) ∧ Below w.heap.size w w' := by
  obtain ⟨s, rfl, hs⟩ := u64_rng h1
  obtain ⟨t, rfl, ht⟩ := u64_rng h2
  exact injective_walk s t w hs ht

theorem belowRange_walk' (a n : Int) (w : World) (h1 : (Lit.int .u64 a).wf = true) (h2 : (Lit.int .i64 n).wf = true) :
    Calls Try.prog 9 #[.int .u64 a, .int .i64 n] w fun e w' => e = .returned (.bool true) ∧ Below w.heap.size w w' := by
  obtain ⟨s, rfl, _⟩ := u64_rng h1
  exact belowRange_walk s n w (int_rng h2).2

theorem shuffles_walk' (n a : Int) (w : World) (h2 : (Lit.int .i64 n).wf = true) (h1 : (Lit.int .u64 a).wf = true) :
    Calls Try.prog 3 #[.int .i64 n, .int .u64 a] w fun e w' => e = .returned (.bool true) ∧ Below w.heap.size w w' := by
  obtain ⟨s, rfl, hs⟩ := u64_rng h1
  exact shuffles_walk n s w hs (int_rng h2).2

theorem permIsPermutation_walk' (n a : Int) (w : World) (h1 : (Lit.int .u64 a).wf = true) :
    Calls Try.prog 6 #[.int .i64 n, .int .u64 a] w fun e w' => e = .returned (.bool true) ∧ Below w.heap.size w w' := by
  obtain ⟨s, rfl, hs⟩ := u64_rng h1
  exact permIsPermutation_walk n s w hs

theorem roundTrip_walk' (A : Option Addr) (n c : Nat) (l : List ByteArray) (a : Int) (w : World) (R : RdS w w.heap.size A n l) (h1 : (Lit.int .u64 a).wf = true) :
    Calls Try.prog 7 #[.slice A n c, .int .u64 a] w fun e w' => e = .returned (.bool true) ∧ Below w.heap.size w w' := by
  obtain ⟨s, rfl, hs⟩ := u64_rng h1
  exact roundTrip_walk A n c s l w R hs

end Go.Proofs.Ytjlgekfgldmkhaa
