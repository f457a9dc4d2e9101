/- What each call of package fixed, and of its reference, returns: of the world nothing that was there has changed. -/
import Derived.Test.YtigjamfnekaeeaaCalls
import Derived.Test.YtigjamfnekaeeaaBelow
namespace Go.Proofs.Ytigjamfnekaeeaa
set_option linter.unusedSimpArgs false
open Go.RowKit Go.Sort

theorem Drew.below {w w' : World} (h : Drew w w') : Below w.heap.size w w' := by
  obtain ⟨m, rfl⟩ := h; exact ⟨rfl, rfl, rfl, Nat.le_refl _, fun _ _ => rfl⟩

end Go.Proofs.Ytigjamfnekaeeaa
