/- The walk of the law on Lerp: it answers true, whatever the numbers; of the world no more has changed than the count of the orders that were drawn. -/
import Derived.Test.YtneakdghangioaaCalls
import Derived.Test.YtneakdghangioaaLerpMath
namespace Go.Proofs.Ytneakdghangioaa
open Go.RowKit

theorem box_below {w w' : World} {o : Obj} {w0 : World} (h : Hid (w0 = w.alloc o)) (d : Drew w0 w') : Below w.heap.size w w' := by
  obtain ⟨m, rfl⟩ := d
  have e := h.out
  subst e
  exact below_drewN ((Below.refl _ _).alloc (Nat.le_refl _) o) m
set_option maxRecDepth 100000 in
set_option maxHeartbeats 1600000 in
theorem lerp_walk1 (a b t u : Int) (w : World) (hs : sat a ≤ sat b) (hn : sat a < sat b) (ht : t ≤ u) :
    Calls Try.prog 8 #[.int .i64 a, .int .i64 b, .agg #[.int .i64 t, .int .i64 u]] w fun e w' => e = .returned (.bool true) ∧ Below w.heap.size w w' := by
  have ba := sat_bd a
  have bb := sat_bd b
  have e0 : (lerpv a b 0 != sat a) = false := by rw [lerp_low a b 0 (by omega)]; simp
  have e0' : (lerpv a b 0 == sat a) = true := by rw [lerp_low a b 0 (by omega)]; simp
  have e1 : (lerpv a a t != sat a) = false := by rw [lerp_same]; simp
  have e2 : 65536 ≤ t → (lerpv a b t == lerpv a b 65536) = true := fun h => by rw [lerp_high a b t h]; simp
  have e3 : t ≤ 0 → (lerpv a b t == sat a) = true := fun h => by rw [lerp_low a b t h]; simp
  have f1 := lerp_up a b t hs
  have f2 := lerp_up a b u hs
  have m1 := lerp_mono a b t u hs ht
  go_enter Try.func8, Try.ntmps8
  go_wp2_with fail
  go_quiet (fail)
  obtain ⟨w0, hw0⟩ : ∃ w0 : World, w0 = w.alloc (.cells #[.int .i64 t, .int .i64 u] 29) := ⟨_, rfl⟩
  have HW := Lib.hid hw0
  have D2 : Drew w0 ((w.alloc (.cells #[.int .i64 t, .int .i64 u] 29)).drewN nq) := by rw [hw0]; exact Drew.more (Drew.refl _) nq
  clear hw0
  go_wp2_with (first | (go_at_call 38; refine (limited_any _ w0 _ (by assumption)).mono ?_; rintro e w1 ⟨rfl, D1⟩) | (go_at_call 31; refine (lerp_any _ _ _ w0 _ (by assumption)).mono ?_; rintro e w1 ⟨rfl, D1⟩) | (go_at_call 33; refine (example_any  w0 _ (by assumption)).mono ?_; rintro e w1 ⟨rfl, D1⟩))
  all_goals first | (go_ret; exact ⟨rfl, box_below HW (by assumption)⟩) | (exfalso; simp only [beq_iff_eq] at *; omega)

set_option maxRecDepth 100000 in
set_option maxHeartbeats 1600000 in
theorem lerp_walk2 (a b t u : Int) (w : World) (hs : sat a ≤ sat b) (hn : sat a < sat b) (ht : u < t) :
    Calls Try.prog 8 #[.int .i64 a, .int .i64 b, .agg #[.int .i64 t, .int .i64 u]] w fun e w' => e = .returned (.bool true) ∧ Below w.heap.size w w' := by
  have ba := sat_bd a
  have bb := sat_bd b
  have e0 : (lerpv a b 0 != sat a) = false := by rw [lerp_low a b 0 (by omega)]; simp
  have e0' : (lerpv a b 0 == sat a) = true := by rw [lerp_low a b 0 (by omega)]; simp
  have e1 : (lerpv a a t != sat a) = false := by rw [lerp_same]; simp
  have e2 : 65536 ≤ t → (lerpv a b t == lerpv a b 65536) = true := fun h => by rw [lerp_high a b t h]; simp
  have e3 : t ≤ 0 → (lerpv a b t == sat a) = true := fun h => by rw [lerp_low a b t h]; simp
  have f1 := lerp_up a b t hs
  have f2 := lerp_up a b u hs
  go_enter Try.func8, Try.ntmps8
  go_wp2_with fail
  go_quiet (fail)
  obtain ⟨w0, hw0⟩ : ∃ w0 : World, w0 = w.alloc (.cells #[.int .i64 t, .int .i64 u] 29) := ⟨_, rfl⟩
  have HW := Lib.hid hw0
  have D2 : Drew w0 ((w.alloc (.cells #[.int .i64 t, .int .i64 u] 29)).drewN nq) := by rw [hw0]; exact Drew.more (Drew.refl _) nq
  clear hw0
  go_wp2_with (first | (go_at_call 38; refine (limited_any _ w0 _ (by assumption)).mono ?_; rintro e w1 ⟨rfl, D1⟩) | (go_at_call 31; refine (lerp_any _ _ _ w0 _ (by assumption)).mono ?_; rintro e w1 ⟨rfl, D1⟩) | (go_at_call 33; refine (example_any  w0 _ (by assumption)).mono ?_; rintro e w1 ⟨rfl, D1⟩))
  all_goals first | (go_ret; exact ⟨rfl, box_below HW (by assumption)⟩) | (exfalso; simp only [beq_iff_eq] at *; omega)

set_option maxRecDepth 100000 in
set_option maxHeartbeats 1600000 in
theorem lerp_walk3 (a b t u : Int) (w : World) (hs : sat b ≤ sat a) (hn : sat b < sat a) (ht : t ≤ u) :
    Calls Try.prog 8 #[.int .i64 a, .int .i64 b, .agg #[.int .i64 t, .int .i64 u]] w fun e w' => e = .returned (.bool true) ∧ Below w.heap.size w w' := by
  have ba := sat_bd a
  have bb := sat_bd b
  have e0 : (lerpv a b 0 != sat a) = false := by rw [lerp_low a b 0 (by omega)]; simp
  have e0' : (lerpv a b 0 == sat a) = true := by rw [lerp_low a b 0 (by omega)]; simp
  have e1 : (lerpv a a t != sat a) = false := by rw [lerp_same]; simp
  have e2 : 65536 ≤ t → (lerpv a b t == lerpv a b 65536) = true := fun h => by rw [lerp_high a b t h]; simp
  have e3 : t ≤ 0 → (lerpv a b t == sat a) = true := fun h => by rw [lerp_low a b t h]; simp
  have f3 := lerp_down a b t hs
  have f4 := lerp_down a b u hs
  have m1 := lerp_anti a b t u hs ht
  go_enter Try.func8, Try.ntmps8
  go_wp2_with fail
  go_quiet (fail)
  obtain ⟨w0, hw0⟩ : ∃ w0 : World, w0 = w.alloc (.cells #[.int .i64 t, .int .i64 u] 29) := ⟨_, rfl⟩
  have HW := Lib.hid hw0
  have D2 : Drew w0 ((w.alloc (.cells #[.int .i64 t, .int .i64 u] 29)).drewN nq) := by rw [hw0]; exact Drew.more (Drew.refl _) nq
  clear hw0
  go_wp2_with (first | (go_at_call 38; refine (limited_any _ w0 _ (by assumption)).mono ?_; rintro e w1 ⟨rfl, D1⟩) | (go_at_call 31; refine (lerp_any _ _ _ w0 _ (by assumption)).mono ?_; rintro e w1 ⟨rfl, D1⟩) | (go_at_call 33; refine (example_any  w0 _ (by assumption)).mono ?_; rintro e w1 ⟨rfl, D1⟩))
  all_goals first | (go_ret; exact ⟨rfl, box_below HW (by assumption)⟩) | (exfalso; simp only [beq_iff_eq] at *; omega)

set_option maxRecDepth 100000 in
set_option maxHeartbeats 1600000 in
theorem lerp_walk4 (a b t u : Int) (w : World) (hs : sat b ≤ sat a) (hn : sat b < sat a) (ht : u < t) :
    Calls Try.prog 8 #[.int .i64 a, .int .i64 b, .agg #[.int .i64 t, .int .i64 u]] w fun e w' => e = .returned (.bool true) ∧ Below w.heap.size w w' := by
  have ba := sat_bd a
  have bb := sat_bd b
  have e0 : (lerpv a b 0 != sat a) = false := by rw [lerp_low a b 0 (by omega)]; simp
  have e0' : (lerpv a b 0 == sat a) = true := by rw [lerp_low a b 0 (by omega)]; simp
  have e1 : (lerpv a a t != sat a) = false := by rw [lerp_same]; simp
  have e2 : 65536 ≤ t → (lerpv a b t == lerpv a b 65536) = true := fun h => by rw [lerp_high a b t h]; simp
  have e3 : t ≤ 0 → (lerpv a b t == sat a) = true := fun h => by rw [lerp_low a b t h]; simp
  have f3 := lerp_down a b t hs
  have f4 := lerp_down a b u hs
  go_enter Try.func8, Try.ntmps8
  go_wp2_with fail
  go_quiet (fail)
  obtain ⟨w0, hw0⟩ : ∃ w0 : World, w0 = w.alloc (.cells #[.int .i64 t, .int .i64 u] 29) := ⟨_, rfl⟩
  have HW := Lib.hid hw0
  have D2 : Drew w0 ((w.alloc (.cells #[.int .i64 t, .int .i64 u] 29)).drewN nq) := by rw [hw0]; exact Drew.more (Drew.refl _) nq
  clear hw0
  go_wp2_with (first | (go_at_call 38; refine (limited_any _ w0 _ (by assumption)).mono ?_; rintro e w1 ⟨rfl, D1⟩) | (go_at_call 31; refine (lerp_any _ _ _ w0 _ (by assumption)).mono ?_; rintro e w1 ⟨rfl, D1⟩) | (go_at_call 33; refine (example_any  w0 _ (by assumption)).mono ?_; rintro e w1 ⟨rfl, D1⟩))
  all_goals first | (go_ret; exact ⟨rfl, box_below HW (by assumption)⟩) | (exfalso; simp only [beq_iff_eq] at *; omega)

set_option maxRecDepth 100000 in
set_option maxHeartbeats 1600000 in
theorem lerp_walk5 (a b t u : Int) (w : World) (hs : sat a ≤ sat b) (hs2 : sat b ≤ sat a) :
    Calls Try.prog 8 #[.int .i64 a, .int .i64 b, .agg #[.int .i64 t, .int .i64 u]] w fun e w' => e = .returned (.bool true) ∧ Below w.heap.size w w' := by
  have ba := sat_bd a
  have bb := sat_bd b
  have e0 : (lerpv a b 0 != sat a) = false := by rw [lerp_low a b 0 (by omega)]; simp
  have e0' : (lerpv a b 0 == sat a) = true := by rw [lerp_low a b 0 (by omega)]; simp
  have e1 : (lerpv a a t != sat a) = false := by rw [lerp_same]; simp
  have e2 : 65536 ≤ t → (lerpv a b t == lerpv a b 65536) = true := fun h => by rw [lerp_high a b t h]; simp
  have e3 : t ≤ 0 → (lerpv a b t == sat a) = true := fun h => by rw [lerp_low a b t h]; simp
  have f1 := lerp_up a b t hs
  have f2 := lerp_up a b u hs
  have f3 := lerp_down a b t hs2
  have f4 := lerp_down a b u hs2
  go_enter Try.func8, Try.ntmps8
  go_wp2_with fail
  go_quiet (fail)
  obtain ⟨w0, hw0⟩ : ∃ w0 : World, w0 = w.alloc (.cells #[.int .i64 t, .int .i64 u] 29) := ⟨_, rfl⟩
  have HW := Lib.hid hw0
  have D2 : Drew w0 ((w.alloc (.cells #[.int .i64 t, .int .i64 u] 29)).drewN nq) := by rw [hw0]; exact Drew.more (Drew.refl _) nq
  clear hw0
  go_wp2_with (first | (go_at_call 38; refine (limited_any _ w0 _ (by assumption)).mono ?_; rintro e w1 ⟨rfl, D1⟩) | (go_at_call 31; refine (lerp_any _ _ _ w0 _ (by assumption)).mono ?_; rintro e w1 ⟨rfl, D1⟩) | (go_at_call 33; refine (example_any  w0 _ (by assumption)).mono ?_; rintro e w1 ⟨rfl, D1⟩))
  all_goals first | (go_ret; exact ⟨rfl, box_below HW (by assumption)⟩) | (exfalso; simp only [beq_iff_eq] at *; omega)

theorem lerp_walk (a b t u : Int) (w : World) :
    Calls Try.prog 8 #[.int .i64 a, .int .i64 b, .agg #[.int .i64 t, .int .i64 u]] w fun e w' => e = .returned (.bool true) ∧ Below w.heap.size w w' := by
  by_cases h : t ≤ u
  · rcases Int.lt_trichotomy (sat a) (sat b) with hs | hs | hs
    · exact lerp_walk1 a b t u w (by omega) hs h
    · exact lerp_walk5 a b t u w (by omega) (by omega)
    · exact lerp_walk3 a b t u w (by omega) hs h
  · rcases Int.lt_trichotomy (sat a) (sat b) with hs | hs | hs
    · exact lerp_walk2 a b t u w (by omega) hs (by omega)
    · exact lerp_walk5 a b t u w (by omega) (by omega)
    · exact lerp_walk4 a b t u w (by omega) hs (by omega)

end Go.Proofs.Ytneakdghangioaa
