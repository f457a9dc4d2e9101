/- What InRange, Area of package cull and of the reference return. -/
import Derived.Test.YtcnemjkcihlpeaaTri
import Derived.Test.YtcnemjkcihlpeaaTail
import Derived.WalkSpells
import Derived.Lib.Hide
namespace Go.Proofs.Ytcnemjkcihlpeaa
set_option linter.unusedSimpArgs false
open Go.RowKit Go.Sort Go.ChangeShapes Go.WideShapes
set_option linter.unusedVariables false

theorem ret_int {k : IntKind} {a b : Int} (h : a = b) : Ending.returned (.int k a) = .returned (.int k b) := by rw [h]

theorem ret_bool {a b : Bool} (h : a = b) : Ending.returned (.bool a) = .returned (.bool b) := by rw [h]

/-- On the screen? -/
def inr (v : SV) : Bool := decide (0 ≤ v.x ∧ v.x ≤ 16384 ∧ 0 ≤ v.y ∧ v.y ≤ 16384)

def inr3 (a b c : SV) : Bool := inr a && inr b && inr c

def areav (a b c : SV) : Int := if inr3 a b c = true then (b.x - a.x) * (c.y - a.y) - (b.y - a.y) * (c.x - a.x) else 0

theorem inr_ways (v : SV) : (0 ≤ v.x ∧ v.x ≤ 16384 ∧ 0 ≤ v.y ∧ v.y ≤ 16384 ∧ inr v = true) ∨ (v.x < 0 ∧ inr v = false) ∨ (0 ≤ v.x ∧ 16384 < v.x ∧ inr v = false) ∨ (0 ≤ v.x ∧ v.x ≤ 16384 ∧ v.y < 0 ∧ inr v = false) ∨ (0 ≤ v.x ∧ v.x ≤ 16384 ∧ 0 ≤ v.y ∧ 16384 < v.y ∧ inr v = false) := by
  unfold inr
  simp only [decide_eq_true_eq, decide_eq_false_iff_not]
  omega

set_option maxRecDepth 100000 in
set_option maxHeartbeats 1000000 in
theorem inRange_b (a b c : SV) (w : World) : Calls Try.prog 41 #[.agg #[.int .i64 a.x, .int .i64 a.y, .int .i64 a.z, .int .i64 a.q, .slice a.A a.n a.c, .int .i64 b.x, .int .i64 b.y, .int .i64 b.z, .int .i64 b.q, .slice b.A b.n b.c, .int .i64 c.x, .int .i64 c.y, .int .i64 c.z, .int .i64 c.q, .slice c.A c.n c.c]] w fun e w' => e = .returned (.bool (inr3 a b c)) ∧ Below w.heap.size w w' := by
  have X0 := EBox.made w #[.int .i64 a.x, .int .i64 a.y, .int .i64 a.z, .int .i64 a.q, .slice a.A a.n a.c, .int .i64 b.x, .int .i64 b.y, .int .i64 b.z, .int .i64 b.q, .slice b.A b.n b.c, .int .i64 c.x, .int .i64 c.y, .int .i64 c.z, .int .i64 c.q, .slice c.A c.n c.c] 34
  have r0 : (w.alloc (.cells #[.int .i64 a.x, .int .i64 a.y, .int .i64 a.z, .int .i64 a.q, .slice a.A a.n a.c, .int .i64 b.x, .int .i64 b.y, .int .i64 b.z, .int .i64 b.q, .slice b.A b.n b.c, .int .i64 c.x, .int .i64 c.y, .int .i64 c.z, .int .i64 c.q, .slice c.A c.n c.c] 34)).rangeAt w.heap.size 0 _ := X0.1
  have BB := box_below w #[.int .i64 a.x, .int .i64 a.y, .int .i64 a.z, .int .i64 a.q, .slice a.A a.n a.c, .int .i64 b.x, .int .i64 b.y, .int .i64 b.z, .int .i64 b.q, .slice b.A b.n b.c, .int .i64 c.x, .int .i64 c.y, .int .i64 c.z, .int .i64 c.q, .slice c.A c.n c.c] 34
  have I0 := ixv0 a b c
  have I1 := ixv1 a b c
  have I2 := ixv2 a b c
  clear X0
  go_enter Try.func41, Try.ntmps41
  go_wp2_with ((with_reducible refine eload15L rk_t3 r0 ?_ ?_); focus rfl)
  clear r0
  go_loopw [6] (fun i wr => ∃ k : Nat, k ≤ 3 ∧ i = .int .i64 k ∧ Below w.heap.size w wr ∧ (0 < k → inr a = true) ∧ (1 < k → inr b = true) ∧ (2 < k → inr c = true)) (fun i _ => 3 - (intOf i).toNat)
  case atStart => exact ⟨0, Nat.zero_le _, rfl, BB, by omega, by omega, by omega⟩
  case round =>
    clear BB
    obtain ⟨k, hk, rfl, BB, ha, hb, hc⟩ := hrel
    rename World => wr
    rcases (show k = 0 ∨ k = 1 ∨ k = 2 ∨ k = 3 by omega) with rfl | rfl | rfl | rfl
    · rcases inr_ways a with ⟨h1, h2, h3, h4, h5⟩ | ⟨h1, h5⟩ | ⟨h1, h2, h5⟩ | ⟨h1, h2, h3, h5⟩ | ⟨h1, h2, h3, h4, h5⟩
      all_goals
        have H5 := Lib.hid h5
        clear h5 ha hb hc
        go_wp2_with ((with_reducible refine estore5L rk_sv ?_ ?_ ?_ ?_); focus rfl; focus rfl; focus rfl)
      · go_roundw
        case rel => exact ⟨1, by omega, by go_num, bon BB (box_below _ _ _), fun _ => H5.out, by omega, by omega⟩
        case measure => simp [intOf]
      all_goals go_ret
      all_goals exact ⟨ret_bool (by unfold inr3; rw [H5.out]; simp), bon BB (box_below _ _ _)⟩
    · have ha := ha (by omega)
      rcases inr_ways b with ⟨h1, h2, h3, h4, h5⟩ | ⟨h1, h5⟩ | ⟨h1, h2, h5⟩ | ⟨h1, h2, h3, h5⟩ | ⟨h1, h2, h3, h4, h5⟩
      all_goals
        have H5 := Lib.hid h5
        have HA := Lib.hid ha
        clear h5 ha hb hc
        go_wp2_with ((with_reducible refine estore5L rk_sv ?_ ?_ ?_ ?_); focus rfl; focus rfl; focus rfl)
      · go_roundw
        case rel => exact ⟨2, by omega, by go_num, bon BB (box_below _ _ _), fun _ => HA.out, fun _ => H5.out, by omega⟩
        case measure => simp [intOf]
      all_goals go_ret
      all_goals exact ⟨ret_bool (by unfold inr3; rw [H5.out]; simp), bon BB (box_below _ _ _)⟩
    · have ha := ha (by omega)
      have hb := hb (by omega)
      rcases inr_ways c with ⟨h1, h2, h3, h4, h5⟩ | ⟨h1, h5⟩ | ⟨h1, h2, h5⟩ | ⟨h1, h2, h3, h5⟩ | ⟨h1, h2, h3, h4, h5⟩
      all_goals
        have H5 := Lib.hid h5
        have HA := Lib.hid ha
        have HB := Lib.hid hb
        clear h5 ha hb hc
        go_wp2_with ((with_reducible refine estore5L rk_sv ?_ ?_ ?_ ?_); focus rfl; focus rfl; focus rfl)
      · go_roundw
        case rel => exact ⟨3, by omega, by go_num, bon BB (box_below _ _ _), fun _ => HA.out, fun _ => HB.out, fun _ => H5.out⟩
        case measure => simp [intOf]
      all_goals go_ret
      all_goals exact ⟨ret_bool (by unfold inr3; rw [H5.out]; simp), bon BB (box_below _ _ _)⟩
    · have ha := Lib.hid (ha (by omega))
      have hb := Lib.hid (hb (by omega))
      have hc := Lib.hid (hc (by omega))
      go_wp2
      go_ret
      exact ⟨ret_bool (by unfold inr3; rw [ha.out, hb.out, hc.out]; rfl), BB⟩

end Go.Proofs.Ytcnemjkcihlpeaa
