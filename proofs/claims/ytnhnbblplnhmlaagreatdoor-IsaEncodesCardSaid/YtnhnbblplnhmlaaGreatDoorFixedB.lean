/- What each call of package fixed, and of its reference, returns: of the world nothing that was there has changed. -/
import Derived.Test.YtnhnbblplnhmlaaGreatDoorCalls
import Derived.Test.YtnhnbblplnhmlaaGreatDoorBelow
namespace Go.Proofs.YtnhnbblplnhmlaaGreatDoor
set_option linter.unusedSimpArgs false
open Go.RowKit Go.Sort

theorem Drew.below {w w' : World} (h : Drew w w') : Below w.heap.size w w' := by
  obtain ⟨m, rfl⟩ := h; exact ⟨rfl, rfl, rfl, Nat.le_refl _, fun _ _ => rfl⟩

theorem clamp_b (x lo hi : Int) (w : World) : Calls Tryz.prog 92 #[.int .i64 x, .int .i64 lo, .int .i64 hi] w fun e w' => e = .returned (.int .i64 (clampv x lo hi)) ∧ Below w.heap.size w w' :=
  (clamp_any x lo hi w w (Drew.refl w)).mono fun _ _ ⟨h, g⟩ => ⟨h, g.below⟩

theorem rclamp_b (x lo hi : Int) (w : World) : Calls Tryz.prog 58 #[.int .i64 x, .int .i64 lo, .int .i64 hi] w fun e w' => e = .returned (.int .i64 (clampv x lo hi)) ∧ Below w.heap.size w w' :=
  (rclamp_any x lo hi w w (Drew.refl w)).mono fun _ _ ⟨h, g⟩ => ⟨h, g.below⟩

theorem saturate_b (x : Int) (w : World) : Calls Tryz.prog 52 #[.int .i64 x] w fun e w' => e = .returned (.int .i64 (sat x)) ∧ Below w.heap.size w w' :=
  (saturate_any x w w (Drew.refl w)).mono fun _ _ ⟨h, g⟩ => ⟨h, g.below⟩

theorem rsaturate_b (x : Int) (w : World) : Calls Tryz.prog 25 #[.int .i64 x] w fun e w' => e = .returned (.int .i64 (sat x)) ∧ Below w.heap.size w w' :=
  (rsaturate_any x w w (Drew.refl w)).mono fun _ _ ⟨h, g⟩ => ⟨h, g.below⟩

theorem add_b (a b : Int) (w : World) : Calls Tryz.prog 53 #[.int .i64 a, .int .i64 b] w fun e w' => e = .returned (.int .i64 (addv a b)) ∧ Below w.heap.size w w' :=
  (add_any a b w w (Drew.refl w)).mono fun _ _ ⟨h, g⟩ => ⟨h, g.below⟩

theorem radd_b (a b : Int) (w : World) : Calls Tryz.prog 20 #[.int .i64 a, .int .i64 b] w fun e w' => e = .returned (.int .i64 (addv a b)) ∧ Below w.heap.size w w' :=
  (radd_any a b w w (Drew.refl w)).mono fun _ _ ⟨h, g⟩ => ⟨h, g.below⟩

theorem sub_b (a b : Int) (w : World) : Calls Tryz.prog 45 #[.int .i64 a, .int .i64 b] w fun e w' => e = .returned (.int .i64 (subv a b)) ∧ Below w.heap.size w w' :=
  (sub_any a b w w (Drew.refl w)).mono fun _ _ ⟨h, g⟩ => ⟨h, g.below⟩

theorem rsub_b (a b : Int) (w : World) : Calls Tryz.prog 21 #[.int .i64 a, .int .i64 b] w fun e w' => e = .returned (.int .i64 (subv a b)) ∧ Below w.heap.size w w' :=
  (rsub_any a b w w (Drew.refl w)).mono fun _ _ ⟨h, g⟩ => ⟨h, g.below⟩

theorem rounddiv_b (n d : Int) (w : World) : Calls Tryz.prog 93 #[.int .i64 n, .int .i64 d] w fun e w' => e = .returned (.int .i64 (rda n d)) ∧ Below w.heap.size w w' :=
  (rounddiv_any n d w w (Drew.refl w)).mono fun _ _ ⟨h, g⟩ => ⟨h, g.below⟩

theorem rrounddiv_b (n d : Int) (w : World) : Calls Tryz.prog 57 #[.int .i64 n, .int .i64 d] w fun e w' => e = .returned (.int .i64 (rda n d)) ∧ Below w.heap.size w w' :=
  (rrounddiv_any n d w w (Drew.refl w)).mono fun _ _ ⟨h, g⟩ => ⟨h, g.below⟩

theorem mul_b (a b : Int) (w : World) : Calls Tryz.prog 54 #[.int .i64 a, .int .i64 b] w fun e w' => e = .returned (.int .i64 (mulv a b)) ∧ Below w.heap.size w w' :=
  (mul_any a b w w (Drew.refl w)).mono fun _ _ ⟨h, g⟩ => ⟨h, g.below⟩

theorem rmul_b (a b : Int) (w : World) : Calls Tryz.prog 22 #[.int .i64 a, .int .i64 b] w fun e w' => e = .returned (.int .i64 (mulv a b)) ∧ Below w.heap.size w w' :=
  (rmul_any a b w w (Drew.refl w)).mono fun _ _ ⟨h, g⟩ => ⟨h, g.below⟩

theorem div_b (a b : Int) (w : World) : Calls Tryz.prog 55 #[.int .i64 a, .int .i64 b] w fun e w' => e = .returned (.int .i64 (divv a b)) ∧ Below w.heap.size w w' :=
  (div_any a b w w (Drew.refl w)).mono fun _ _ ⟨h, g⟩ => ⟨h, g.below⟩

theorem rdiv_b (a b : Int) (w : World) : Calls Tryz.prog 23 #[.int .i64 a, .int .i64 b] w fun e w' => e = .returned (.int .i64 (divv a b)) ∧ Below w.heap.size w w' :=
  (rdiv_any a b w w (Drew.refl w)).mono fun _ _ ⟨h, g⟩ => ⟨h, g.below⟩

theorem floor_b (x : Int) (w : World) : Calls Tryz.prog 47 #[.int .i64 x] w fun e w' => e = .returned (.int .i64 (floorv x)) ∧ Below w.heap.size w w' :=
  (floor_any x w w (Drew.refl w)).mono fun _ _ ⟨h, g⟩ => ⟨h, g.below⟩

theorem rfloor_b (x : Int) (w : World) : Calls Tryz.prog 62 #[.int .i64 x] w fun e w' => e = .returned (.int .i64 (floorv x)) ∧ Below w.heap.size w w' :=
  (rfloor_any x w w (Drew.refl w)).mono fun _ _ ⟨h, g⟩ => ⟨h, g.below⟩

theorem fract_b (x : Int) (w : World) : Calls Tryz.prog 48 #[.int .i64 x] w fun e w' => e = .returned (.int .i64 (fractv x)) ∧ Below w.heap.size w w' :=
  (fract_any x w w (Drew.refl w)).mono fun _ _ ⟨h, g⟩ => ⟨h, g.below⟩

theorem rfract_b (x : Int) (w : World) : Calls Tryz.prog 63 #[.int .i64 x] w fun e w' => e = .returned (.int .i64 (fractv x)) ∧ Below w.heap.size w w' :=
  (rfract_any x w w (Drew.refl w)).mono fun _ _ ⟨h, g⟩ => ⟨h, g.below⟩

theorem wrap_b (x : Int) (w : World) : Calls Tryz.prog 44 #[.int .i64 x] w fun e w' => e = .returned (.int .i64 (wrapv x)) ∧ Below w.heap.size w w' :=
  (wrap_any x w w (Drew.refl w)).mono fun _ _ ⟨h, g⟩ => ⟨h, g.below⟩

theorem rwrap_b (x : Int) (w : World) : Calls Tryz.prog 28 #[.int .i64 x] w fun e w' => e = .returned (.int .i64 (wrapv x)) ∧ Below w.heap.size w w' :=
  (rwrap_any x w w (Drew.refl w)).mono fun _ _ ⟨h, g⟩ => ⟨h, g.below⟩

theorem sqrt_b (x : Int) (w : World) : Calls Tryz.prog 49 #[.int .i64 x] w fun e w' => e = .returned (.int .i64 (sqrtv x)) ∧ Below w.heap.size w w' :=
  (sqrt_any x w w (Drew.refl w)).mono fun _ _ ⟨h, g⟩ => ⟨h, g.below⟩

theorem rsqrt_b (x : Int) (w : World) : Calls Tryz.prog 64 #[.int .i64 x] w fun e w' => e = .returned (.int .i64 (sqrtv x)) ∧ Below w.heap.size w w' :=
  (rsqrt_any x w w (Drew.refl w)).mono fun _ _ ⟨h, g⟩ => ⟨h, g.below⟩

end Go.Proofs.YtnhnbblplnhmlaaGreatDoor
