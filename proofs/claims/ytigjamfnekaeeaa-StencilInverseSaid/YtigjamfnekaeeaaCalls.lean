/- What each call of package fixed, and of its reference, returns: a number of the plain arithmetic; of the world no more has changed than the count of the orders that were drawn. -/
import Derived.Test.YtigjamfnekaeeaaRows
import Derived.Test.YtigjamfnekaeeaaMath
import Derived.WalkKit
import Derived.WalkSpells
import Derived.WalkLawsBesides
import Derived.RowKit3
import Derived.Lib.Hide
import Derived.Deep.QuietTactic
import Derived.BigQuiet
namespace Go.Proofs.Ytigjamfnekaeeaa
set_option linter.unusedSimpArgs false
open Go.RowKit

/-- No more has happened in between than that orders were drawn. -/
def Drew (w w' : World) : Prop := ∃ m, w' = w.drewN m

theorem Drew.refl (w : World) : Drew w w := ⟨0, rfl⟩

theorem Drew.more {w w' : World} (h : Drew w w') (n : Nat) : Drew w (w'.drewN n) := by
  obtain ⟨m, rfl⟩ := h; exact ⟨m + n, World.drewN_drewN _ _ _⟩

theorem Drew.grown {w w' : World} (h : Drew w w') : Grown w w' := by
  obtain ⟨m, rfl⟩ := h; exact Grown.refl w

theorem ret_int {k : IntKind} {a b : Int} (h : a = b) : Ending.returned (.int k a) = .returned (.int k b) := by rw [h]

theorem ret_bool {a b : Bool} (h : a = b) : Ending.returned (.bool a) = .returned (.bool b) := by rw [h]

theorem and_low (n : Int) : bits .and .i64 n 65535 = n % 65536 := by
  have hm : (BitVec.ofInt 64 65535).toNat = 2 ^ 16 - 1 := by decide
  have key : (BitVec.ofInt 64 n &&& BitVec.ofInt 64 65535).toNat = (n % ((2 ^ 64 : Nat) : Int)).toNat % 2 ^ 16 := by
    rw [BitVec.toNat_and, BitVec.toNat_ofInt, hm, Nat.and_two_pow_sub_one_eq_mod]
  show IntKind.i64.wrap ((BitVec.ofInt 64 n &&& BitVec.ofInt 64 65535).toNat : Nat) = n % 65536
  rw [key, IntKind.wrap_i64]
  omega

end Go.Proofs.Ytigjamfnekaeeaa
