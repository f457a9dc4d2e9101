/- What each call of package fixed, and of its reference, returns: of the world nothing that was there has changed. -/
import Derived.Test.YtadndipdkdgkbaaCalls
import Derived.Test.YtadndipdkdgkbaaBelow
namespace Go.Proofs.Ytadndipdkdgkbaa
set_option linter.unusedSimpArgs false
open Go.RowKit Go.Sort

theorem Drew.below {w w' : World} (h : Drew w w') : Below w.heap.size w w' := by
  obtain ⟨m, rfl⟩ := h; exact ⟨rfl, rfl, rfl, Nat.le_refl _, fun _ _ => rfl⟩

theorem clamp_b (x lo hi : Int) (w : World) : Calls Try.prog 40 #[.int .i64 x, .int .i64 lo, .int .i64 hi] w fun e w' => e = .returned (.int .i64 (clampv x lo hi)) ∧ Below w.heap.size w w' :=
  (clamp_any x lo hi w w (Drew.refl w)).mono fun _ _ ⟨h, g⟩ => ⟨h, g.below⟩

theorem rclamp_b (x lo hi : Int) (w : World) : Calls Try.prog 41 #[.int .i64 x, .int .i64 lo, .int .i64 hi] w fun e w' => e = .returned (.int .i64 (clampv x lo hi)) ∧ Below w.heap.size w w' :=
  (rclamp_any x lo hi w w (Drew.refl w)).mono fun _ _ ⟨h, g⟩ => ⟨h, g.below⟩

theorem saturate_b (x : Int) (w : World) : Calls Try.prog 23 #[.int .i64 x] w fun e w' => e = .returned (.int .i64 (sat x)) ∧ Below w.heap.size w w' :=
  (saturate_any x w w (Drew.refl w)).mono fun _ _ ⟨h, g⟩ => ⟨h, g.below⟩

theorem rsaturate_b (x : Int) (w : World) : Calls Try.prog 25 #[.int .i64 x] w fun e w' => e = .returned (.int .i64 (sat x)) ∧ Below w.heap.size w w' :=
  (rsaturate_any x w w (Drew.refl w)).mono fun _ _ ⟨h, g⟩ => ⟨h, g.below⟩

theorem rounddiv_b (n d : Int) (w : World) : Calls Try.prog 24 #[.int .i64 n, .int .i64 d] w fun e w' => e = .returned (.int .i64 (rda n d)) ∧ Below w.heap.size w w' :=
  (rounddiv_any n d w w (Drew.refl w)).mono fun _ _ ⟨h, g⟩ => ⟨h, g.below⟩

theorem rrounddiv_b (n d : Int) (w : World) : Calls Try.prog 26 #[.int .i64 n, .int .i64 d] w fun e w' => e = .returned (.int .i64 (rda n d)) ∧ Below w.heap.size w w' :=
  (rrounddiv_any n d w w (Drew.refl w)).mono fun _ _ ⟨h, g⟩ => ⟨h, g.below⟩

end Go.Proofs.Ytadndipdkdgkbaa
