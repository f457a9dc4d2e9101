/- The walks, over what a frame has at hand. -/
import Derived.Test.YthancgnmbmempaaDoorF17
import Derived.Test.YthancgnmbmempaaDoorG13
namespace Go.Proofs.YthancgnmbmempaaDoor
open Go.RowKit

theorem int_rng {a : Int} (h : (Lit.int .i64 a).wf = true) : -9223372036854775808 ≤ a ∧ a ≤ 9223372036854775807 := by
  have e1 : IntKind.i64.min = -9223372036854775808 := rfl
  have e2 : IntKind.i64.max = 9223372036854775807 := rfl
  simp [Lit.wf, e1, e2] at h
  omega

theorem u64_rng {a : Int} (h : (Lit.int .u64 a).wf = true) : ∃ u : Nat, a = u ∧ u < 18446744073709551616 := by
  have e1 : IntKind.u64.min = 0 := rfl
  have e2 : IntKind.u64.max = 18446744073709551615 := rfl
  simp [Lit.wf, e1, e2] at h
  exact ⟨a.toNat, by omega, by omega⟩

theorem maxLen_is {n : Nat} (h : n ≤ maxLen) : n ≤ 9223372036854775807 := h

end Go.Proofs.YthancgnmbmempaaDoor
