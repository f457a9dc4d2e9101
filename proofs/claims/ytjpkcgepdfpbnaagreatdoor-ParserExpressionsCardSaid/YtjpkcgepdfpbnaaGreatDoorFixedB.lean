/- What each call of package fixed, and of its reference, returns: of the world nothing that was there has changed. -/
import Derived.Test.YtjpkcgepdfpbnaaGreatDoorCalls
import Derived.Test.YtjpkcgepdfpbnaaGreatDoorBelow
namespace Go.Proofs.YtjpkcgepdfpbnaaGreatDoor
open Go.RowKit Go.Sort

theorem Drew.below {w w' : World} (h : Drew w w') : Below w.heap.size w w' := by
  obtain ⟨m, rfl⟩ := h; exact ⟨rfl, rfl, rfl, Nat.le_refl _, fun _ _ => rfl⟩

theorem rrounddiv_b (n d : Int) (w : World) : Calls Tryz.prog 130 #[.int .i64 n, .int .i64 d] w fun e w' => e = .returned (.int .i64 (rda n d)) ∧ Below w.heap.size w w' :=
  (rrounddiv_any n d w w (Drew.refl w)).mono fun _ _ ⟨h, g⟩ => ⟨h, g.below⟩

end Go.Proofs.YtjpkcgepdfpbnaaGreatDoor
