/- Lines of the program. -/
import Derived.Test.YtjpkcgepdfpbnaaGreatDoorZ4
import Derived.Test.YtjpkcgepdfpbnaaGreatDoorShelf
namespace Go.Proofs.YtjpkcgepdfpbnaaGreatDoor
open Go.RowKit Go.Sort
set_option linter.unusedVariables false

theorem countByte_eq (l : List UInt8) : Lib.countByte l 10 = (l.map fun b => (b.toNat : Int)).count 10 := by
  induction l with
  | nil => rfl
  | cons a l ih =>
    have e : Lib.countByte (a :: l) 10 = (if a = 10 then 1 else 0) + Lib.countByte l 10 := by
      unfold Lib.countByte
      by_cases h : a = 10 <;> simp [h] <;> omega
    rw [e, ih, List.map_cons, List.count_cons]
    by_cases h : a = 10
    · subst h
      rw [if_pos rfl, if_pos (by decide)]
      omega
    · have h2 : ¬ ((a.toNat : Int) = 10) := fun q => h (UInt8.toNat_inj.1 ((show a.toNat = 10 by omega).trans rfl))
      rw [if_neg h, if_neg (by simpa using h2)]
      omega

end Go.Proofs.YtjpkcgepdfpbnaaGreatDoor
