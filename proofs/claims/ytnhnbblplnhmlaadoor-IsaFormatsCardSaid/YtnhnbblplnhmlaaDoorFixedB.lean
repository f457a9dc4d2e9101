/- What each call of package fixed, and of its reference, returns: of the world nothing that was there has changed. -/
import Derived.Test.YtnhnbblplnhmlaaDoorCalls
import Derived.Test.YtnhnbblplnhmlaaDoorBelow
namespace Go.Proofs.YtnhnbblplnhmlaaDoor
set_option linter.unusedSimpArgs false
open Go.RowKit Go.Sort

theorem Drew.below {w w' : World} (h : Drew w w') : Below w.heap.size w w' := by
  obtain ⟨m, rfl⟩ := h; exact ⟨rfl, rfl, rfl, Nat.le_refl _, fun _ _ => rfl⟩

theorem clamp_b (x lo hi : Int) (w : World) : Calls Tryd.prog 77 #[.int .i64 x, .int .i64 lo, .int .i64 hi] w fun e w' => e = .returned (.int .i64 (clampv x lo hi)) ∧ Below w.heap.size w w' :=
  (clamp_any x lo hi w w (Drew.refl w)).mono fun _ _ ⟨h, g⟩ => ⟨h, g.below⟩

theorem saturate_b (x : Int) (w : World) : Calls Tryd.prog 64 #[.int .i64 x] w fun e w' => e = .returned (.int .i64 (sat x)) ∧ Below w.heap.size w w' :=
  (saturate_any x w w (Drew.refl w)).mono fun _ _ ⟨h, g⟩ => ⟨h, g.below⟩

theorem add_b (a b : Int) (w : World) : Calls Tryd.prog 65 #[.int .i64 a, .int .i64 b] w fun e w' => e = .returned (.int .i64 (addv a b)) ∧ Below w.heap.size w w' :=
  (add_any a b w w (Drew.refl w)).mono fun _ _ ⟨h, g⟩ => ⟨h, g.below⟩

theorem sub_b (a b : Int) (w : World) : Calls Tryd.prog 57 #[.int .i64 a, .int .i64 b] w fun e w' => e = .returned (.int .i64 (subv a b)) ∧ Below w.heap.size w w' :=
  (sub_any a b w w (Drew.refl w)).mono fun _ _ ⟨h, g⟩ => ⟨h, g.below⟩

theorem rounddiv_b (n d : Int) (w : World) : Calls Tryd.prog 78 #[.int .i64 n, .int .i64 d] w fun e w' => e = .returned (.int .i64 (rda n d)) ∧ Below w.heap.size w w' :=
  (rounddiv_any n d w w (Drew.refl w)).mono fun _ _ ⟨h, g⟩ => ⟨h, g.below⟩

theorem mul_b (a b : Int) (w : World) : Calls Tryd.prog 66 #[.int .i64 a, .int .i64 b] w fun e w' => e = .returned (.int .i64 (mulv a b)) ∧ Below w.heap.size w w' :=
  (mul_any a b w w (Drew.refl w)).mono fun _ _ ⟨h, g⟩ => ⟨h, g.below⟩

theorem div_b (a b : Int) (w : World) : Calls Tryd.prog 67 #[.int .i64 a, .int .i64 b] w fun e w' => e = .returned (.int .i64 (divv a b)) ∧ Below w.heap.size w w' :=
  (div_any a b w w (Drew.refl w)).mono fun _ _ ⟨h, g⟩ => ⟨h, g.below⟩

theorem floor_b (x : Int) (w : World) : Calls Tryd.prog 59 #[.int .i64 x] w fun e w' => e = .returned (.int .i64 (floorv x)) ∧ Below w.heap.size w w' :=
  (floor_any x w w (Drew.refl w)).mono fun _ _ ⟨h, g⟩ => ⟨h, g.below⟩

theorem fract_b (x : Int) (w : World) : Calls Tryd.prog 60 #[.int .i64 x] w fun e w' => e = .returned (.int .i64 (fractv x)) ∧ Below w.heap.size w w' :=
  (fract_any x w w (Drew.refl w)).mono fun _ _ ⟨h, g⟩ => ⟨h, g.below⟩

theorem wrap_b (x : Int) (w : World) : Calls Tryd.prog 56 #[.int .i64 x] w fun e w' => e = .returned (.int .i64 (wrapv x)) ∧ Below w.heap.size w w' :=
  (wrap_any x w w (Drew.refl w)).mono fun _ _ ⟨h, g⟩ => ⟨h, g.below⟩

theorem sqrt_b (x : Int) (w : World) : Calls Tryd.prog 61 #[.int .i64 x] w fun e w' => e = .returned (.int .i64 (sqrtv x)) ∧ Below w.heap.size w w' :=
  (sqrt_any x w w (Drew.refl w)).mono fun _ _ ⟨h, g⟩ => ⟨h, g.below⟩

end Go.Proofs.YtnhnbblplnhmlaaDoor
