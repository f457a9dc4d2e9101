/- What Same, SameInts and Clone return. -/
import Derived.Test.YtfakmeimideoaaaBytes
import Derived.Test.YtfakmeimideoaaaBelow
import Derived.Test.YtfakmeimideoaaaChecked
import Derived.Deep.QuietTactic
import Derived.BigQuiet
import Derived.Outline
import Derived.WalkSpells
namespace Go.Proofs.Ytfakmeimideoaaa
open Go.RowKit Go.Sort

theorem eB : Elem Try.prog 22 5 .u8 1 := elem_of Try.underlying22 (by kernel_rfl)
theorem eI : Elem Try.prog 30 3 .i64 8 := elem_of Try.underlying30 (by kernel_rfl)

theorem hid_some {l : List Int} {j : Nat} {x y : Int} (hx : Hid (l[j]? = some x)) (hy : Hid (l[j]? = some y)) : y = x := by
  have h := hx.out.symm.trans hy.out
  injection h with h
  exact h.symm

/-- A call that returns a slice of the caller's own. -/
def GivesOwn (W : World) (base : Nat) (e : TypeId) (k : IntKind) (l : List Int) (x : Ending) (w' : World) : Prop :=
  ∃ A n c, x = .returned (.slice A n c) ∧ Own w' base e k A n c l ∧ Below base W w'

/-- A call that returns a slice. -/
def GivesRd (W : World) (k : IntKind) (l : List Int) (x : Ending) (w' : World) : Prop :=
  ∃ A n c, x = .returned (.slice A n c) ∧ n ≤ c ∧ Rd w' w'.heap.size k A n l ∧ Below W.heap.size W w'

theorem GivesOwn.rd {W w' : World} {e : TypeId} {k : IntKind} {l : List Int} {x : Ending} (h : GivesOwn W W.heap.size e k l x w') : GivesRd W k l x w' := by
  obtain ⟨A, n, c, rfl, own, B⟩ := h
  exact ⟨A, n, c, rfl, own.room, own.rd, B⟩

end Go.Proofs.Ytfakmeimideoaaa
