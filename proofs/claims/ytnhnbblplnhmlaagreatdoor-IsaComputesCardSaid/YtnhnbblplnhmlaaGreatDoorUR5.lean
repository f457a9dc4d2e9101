/- The reference's Compute. Written by tools/gen/genUR4.py. -/
import Derived.Test.YtnhnbblplnhmlaaGreatDoorUR4
namespace Go.Proofs.YtnhnbblplnhmlaaGreatDoor
set_option linter.unusedSimpArgs false
open Go.RowKit Go.Sort
set_option linter.unusedVariables false

set_option maxRecDepth 100000 in
set_option maxHeartbeats 1000000 in
theorem rc1_b (a b c i : Int) (w : World) : Calls Tryz.prog 8 #[.int .i64 1, .int .i64 a, .int .i64 b, .int .i64 c, .int .i64 i] w fun e w' => e = .returned (.int .i64 (comp 1 a b c i)) ∧ Below w.heap.size w w' := by
  have BB : Below w.heap.size w w := Below.refl _ _
  go_enter Tryz.func8, Tryz.ntmps8
  go_wp2
  all_goals
    go_ret
    refine ⟨ret_i64' ?_, BB⟩
    first | (simp [comp, cl, unv, biv]; done) | (simp [comp, cl, unv, biv, absv]; omega) | (simp_all [comp, cl, unv, biv, absv]; done) | rfl

set_option maxRecDepth 100000 in
set_option maxHeartbeats 1000000 in
theorem rc2_b (a b c i : Int) (w : World) : Calls Tryz.prog 8 #[.int .i64 2, .int .i64 a, .int .i64 b, .int .i64 c, .int .i64 i] w fun e w' => e = .returned (.int .i64 (comp 2 a b c i)) ∧ Below w.heap.size w w' := by
  have BB : Below w.heap.size w w := Below.refl _ _
  go_enter Tryz.func8, Tryz.ntmps8
  go_wp2
  all_goals
    go_ret
    refine ⟨ret_i64' ?_, BB⟩
    first | (simp [comp, cl, unv, biv]; done) | (simp [comp, cl, unv, biv, absv]; omega) | (simp_all [comp, cl, unv, biv, absv]; done) | rfl

set_option maxRecDepth 100000 in
set_option maxHeartbeats 1000000 in
theorem rc3_b (a b c i : Int) (w : World) : Calls Tryz.prog 8 #[.int .i64 3, .int .i64 a, .int .i64 b, .int .i64 c, .int .i64 i] w fun e w' => e = .returned (.int .i64 (comp 3 a b c i)) ∧ Below w.heap.size w w' := by
  have BB : Below w.heap.size w w := Below.refl _ _
  go_enter Tryz.func8, Tryz.ntmps8
  go_wp2_with (first | (go_at_call 20; (with_reducible refine (radd_b _ _ _).mono ?_); rintro _ _ ⟨rfl, B⟩; replace BB := bon BB B; clear B))
  all_goals
    go_ret
    refine ⟨ret_i64' ?_, BB⟩
    first | (simp [comp, cl, unv, biv]; done) | (simp [comp, cl, unv, biv, absv]; omega) | (simp_all [comp, cl, unv, biv, absv]; done) | rfl

set_option maxRecDepth 100000 in
set_option maxHeartbeats 1000000 in
theorem rc4_b (a b c i : Int) (w : World) : Calls Tryz.prog 8 #[.int .i64 4, .int .i64 a, .int .i64 b, .int .i64 c, .int .i64 i] w fun e w' => e = .returned (.int .i64 (comp 4 a b c i)) ∧ Below w.heap.size w w' := by
  have BB : Below w.heap.size w w := Below.refl _ _
  go_enter Tryz.func8, Tryz.ntmps8
  go_wp2_with (first | (go_at_call 21; (with_reducible refine (rsub_b _ _ _).mono ?_); rintro _ _ ⟨rfl, B⟩; replace BB := bon BB B; clear B))
  all_goals
    go_ret
    refine ⟨ret_i64' ?_, BB⟩
    first | (simp [comp, cl, unv, biv]; done) | (simp [comp, cl, unv, biv, absv]; omega) | (simp_all [comp, cl, unv, biv, absv]; done) | rfl

set_option maxRecDepth 100000 in
set_option maxHeartbeats 1000000 in
theorem rc5_b (a b c i : Int) (w : World) : Calls Tryz.prog 8 #[.int .i64 5, .int .i64 a, .int .i64 b, .int .i64 c, .int .i64 i] w fun e w' => e = .returned (.int .i64 (comp 5 a b c i)) ∧ Below w.heap.size w w' := by
  have BB : Below w.heap.size w w := Below.refl _ _
  go_enter Tryz.func8, Tryz.ntmps8
  go_wp2_with (first | (go_at_call 22; (with_reducible refine (rmul_b _ _ _).mono ?_); rintro _ _ ⟨rfl, B⟩; replace BB := bon BB B; clear B))
  all_goals
    go_ret
    refine ⟨ret_i64' ?_, BB⟩
    first | (simp [comp, cl, unv, biv]; done) | (simp [comp, cl, unv, biv, absv]; omega) | (simp_all [comp, cl, unv, biv, absv]; done) | rfl

set_option maxRecDepth 100000 in
set_option maxHeartbeats 1000000 in
theorem rc6_b (a b c i : Int) (w : World) : Calls Tryz.prog 8 #[.int .i64 6, .int .i64 a, .int .i64 b, .int .i64 c, .int .i64 i] w fun e w' => e = .returned (.int .i64 (comp 6 a b c i)) ∧ Below w.heap.size w w' := by
  have BB : Below w.heap.size w w := Below.refl _ _
  go_enter Tryz.func8, Tryz.ntmps8
  go_wp2_with (first | (go_at_call 23; (with_reducible refine (rdiv_b _ _ _).mono ?_); rintro _ _ ⟨rfl, B⟩; replace BB := bon BB B; clear B))
  all_goals
    go_ret
    refine ⟨ret_i64' ?_, BB⟩
    first | (simp [comp, cl, unv, biv]; done) | (simp [comp, cl, unv, biv, absv]; omega) | (simp_all [comp, cl, unv, biv, absv]; done) | rfl

set_option maxRecDepth 100000 in
set_option maxHeartbeats 1000000 in
theorem rc7_b (a b c i : Int) (w : World) : Calls Tryz.prog 8 #[.int .i64 7, .int .i64 a, .int .i64 b, .int .i64 c, .int .i64 i] w fun e w' => e = .returned (.int .i64 (comp 7 a b c i)) ∧ Below w.heap.size w w' := by
  have BB : Below w.heap.size w w := Below.refl _ _
  have w1 := wrapv_rng a
  have w2 := wrapv_rng b
  have CI := Lib.hid (fun W => rint7_b (wrapv a) (wrapv b) W w1.1 w1.2 w2.1 w2.2)
  clear w1 w2
  go_enter Tryz.func8, Tryz.ntmps8
  go_wp2_with (first | (go_at_call 28; (with_reducible refine (rwrap_b _ _).mono ?_); rintro _ _ ⟨rfl, B⟩; replace BB := bon BB B; clear B) | (go_at_call 27; (with_reducible refine (CI.out _).mono ?_); rintro _ _ ⟨rfl, B⟩; replace BB := bon BB B; clear B))
  all_goals
    go_ret
    refine ⟨ret_i64' ?_, BB⟩
    first | (simp [comp, cl, unv, biv]; done) | (simp [comp, cl, unv, biv, absv]; omega) | (simp_all [comp, cl, unv, biv, absv]; done) | rfl

set_option maxRecDepth 100000 in
set_option maxHeartbeats 1000000 in
theorem rc8_b (a b c i : Int) (w : World) : Calls Tryz.prog 8 #[.int .i64 8, .int .i64 a, .int .i64 b, .int .i64 c, .int .i64 i] w fun e w' => e = .returned (.int .i64 (comp 8 a b c i)) ∧ Below w.heap.size w w' := by
  have BB : Below w.heap.size w w := Below.refl _ _
  have w1 := wrapv_rng a
  have w2 := wrapv_rng b
  have CI := Lib.hid (fun W => rint8_b (wrapv a) (wrapv b) W w1.1 w1.2 w2.1 w2.2)
  clear w1 w2
  go_enter Tryz.func8, Tryz.ntmps8
  go_wp2_with (first | (go_at_call 28; (with_reducible refine (rwrap_b _ _).mono ?_); rintro _ _ ⟨rfl, B⟩; replace BB := bon BB B; clear B) | (go_at_call 27; (with_reducible refine (CI.out _).mono ?_); rintro _ _ ⟨rfl, B⟩; replace BB := bon BB B; clear B))
  all_goals
    go_ret
    refine ⟨ret_i64' ?_, BB⟩
    first | (simp [comp, cl, unv, biv]; done) | (simp [comp, cl, unv, biv, absv]; omega) | (simp_all [comp, cl, unv, biv, absv]; done) | rfl

set_option maxRecDepth 100000 in
set_option maxHeartbeats 1000000 in
theorem rc9_b (a b c i : Int) (w : World) : Calls Tryz.prog 8 #[.int .i64 9, .int .i64 a, .int .i64 b, .int .i64 c, .int .i64 i] w fun e w' => e = .returned (.int .i64 (comp 9 a b c i)) ∧ Below w.heap.size w w' := by
  have BB : Below w.heap.size w w := Below.refl _ _
  have w1 := wrapv_rng a
  have w2 := wrapv_rng b
  have CI := Lib.hid (fun W => rint9_b (wrapv a) (wrapv b) W w1.1 w1.2 w2.1 w2.2)
  clear w1 w2
  go_enter Tryz.func8, Tryz.ntmps8
  go_wp2_with (first | (go_at_call 28; (with_reducible refine (rwrap_b _ _).mono ?_); rintro _ _ ⟨rfl, B⟩; replace BB := bon BB B; clear B) | (go_at_call 27; (with_reducible refine (CI.out _).mono ?_); rintro _ _ ⟨rfl, B⟩; replace BB := bon BB B; clear B))
  all_goals
    go_ret
    refine ⟨ret_i64' ?_, BB⟩
    first | (simp [comp, cl, unv, biv]; done) | (simp [comp, cl, unv, biv, absv]; omega) | (simp_all [comp, cl, unv, biv, absv]; done) | rfl

set_option maxRecDepth 100000 in
set_option maxHeartbeats 1000000 in
theorem rc10_b (a b c i : Int) (w : World) : Calls Tryz.prog 8 #[.int .i64 10, .int .i64 a, .int .i64 b, .int .i64 c, .int .i64 i] w fun e w' => e = .returned (.int .i64 (comp 10 a b c i)) ∧ Below w.heap.size w w' := by
  have BB : Below w.heap.size w w := Below.refl _ _
  have w1 := wrapv_rng a
  have w2 := wrapv_rng b
  have CI := Lib.hid (fun W => rint10_b (wrapv a) (wrapv b) W w1.1 w1.2 w2.1 w2.2)
  clear w1 w2
  go_enter Tryz.func8, Tryz.ntmps8
  go_wp2_with (first | (go_at_call 28; (with_reducible refine (rwrap_b _ _).mono ?_); rintro _ _ ⟨rfl, B⟩; replace BB := bon BB B; clear B) | (go_at_call 27; (with_reducible refine (CI.out _).mono ?_); rintro _ _ ⟨rfl, B⟩; replace BB := bon BB B; clear B))
  all_goals
    go_ret
    refine ⟨ret_i64' ?_, BB⟩
    first | (simp [comp, cl, unv, biv]; done) | (simp [comp, cl, unv, biv, absv]; omega) | (simp_all [comp, cl, unv, biv, absv]; done) | rfl

set_option maxRecDepth 100000 in
set_option maxHeartbeats 1000000 in
theorem rc11_b (a b c i : Int) (w : World) : Calls Tryz.prog 8 #[.int .i64 11, .int .i64 a, .int .i64 b, .int .i64 c, .int .i64 i] w fun e w' => e = .returned (.int .i64 (comp 11 a b c i)) ∧ Below w.heap.size w w' := by
  have BB : Below w.heap.size w w := Below.refl _ _
  have w1 := wrapv_rng a
  have w2 := wrapv_rng b
  have CI := Lib.hid (fun W => rint11_b (wrapv a) (wrapv b) W w1.1 w1.2 w2.1 w2.2)
  clear w1 w2
  go_enter Tryz.func8, Tryz.ntmps8
  go_wp2_with (first | (go_at_call 28; (with_reducible refine (rwrap_b _ _).mono ?_); rintro _ _ ⟨rfl, B⟩; replace BB := bon BB B; clear B) | (go_at_call 27; (with_reducible refine (CI.out _).mono ?_); rintro _ _ ⟨rfl, B⟩; replace BB := bon BB B; clear B))
  all_goals
    go_ret
    refine ⟨ret_i64' ?_, BB⟩
    first | (simp [comp, cl, unv, biv]; done) | (simp [comp, cl, unv, biv, absv]; omega) | (simp_all [comp, cl, unv, biv, absv]; done) | rfl

set_option maxRecDepth 100000 in
set_option maxHeartbeats 1000000 in
theorem rc12_b (a b c i : Int) (w : World) : Calls Tryz.prog 8 #[.int .i64 12, .int .i64 a, .int .i64 b, .int .i64 c, .int .i64 i] w fun e w' => e = .returned (.int .i64 (comp 12 a b c i)) ∧ Below w.heap.size w w' := by
  have BB : Below w.heap.size w w := Below.refl _ _
  have w1 := wrapv_rng a
  have w2 := wrapv_rng b
  have CI := Lib.hid (fun W => rint12_b (wrapv a) (wrapv b) W w1.1 w1.2 w2.1 w2.2)
  clear w1 w2
  go_enter Tryz.func8, Tryz.ntmps8
  go_wp2_with (first | (go_at_call 28; (with_reducible refine (rwrap_b _ _).mono ?_); rintro _ _ ⟨rfl, B⟩; replace BB := bon BB B; clear B) | (go_at_call 27; (with_reducible refine (CI.out _).mono ?_); rintro _ _ ⟨rfl, B⟩; replace BB := bon BB B; clear B))
  all_goals
    go_ret
    refine ⟨ret_i64' ?_, BB⟩
    first | (simp [comp, cl, unv, biv]; done) | (simp [comp, cl, unv, biv, absv]; omega) | (simp_all [comp, cl, unv, biv, absv]; done) | rfl

set_option maxRecDepth 100000 in
set_option maxHeartbeats 1000000 in
theorem rc13_b (a b c i : Int) (w : World) : Calls Tryz.prog 8 #[.int .i64 13, .int .i64 a, .int .i64 b, .int .i64 c, .int .i64 i] w fun e w' => e = .returned (.int .i64 (comp 13 a b c i)) ∧ Below w.heap.size w w' := by
  have BB : Below w.heap.size w w := Below.refl _ _
  have w1 := wrapv_rng a
  have w2 := wrapv_rng b
  have CI := Lib.hid (fun W => rint13_b (wrapv a) (wrapv b) W w1.1 w1.2 w2.1 w2.2)
  clear w1 w2
  go_enter Tryz.func8, Tryz.ntmps8
  go_wp2_with (first | (go_at_call 28; (with_reducible refine (rwrap_b _ _).mono ?_); rintro _ _ ⟨rfl, B⟩; replace BB := bon BB B; clear B) | (go_at_call 27; (with_reducible refine (CI.out _).mono ?_); rintro _ _ ⟨rfl, B⟩; replace BB := bon BB B; clear B))
  all_goals
    go_ret
    refine ⟨ret_i64' ?_, BB⟩
    first | (simp [comp, cl, unv, biv]; done) | (simp [comp, cl, unv, biv, absv]; omega) | (simp_all [comp, cl, unv, biv, absv]; done) | rfl

set_option maxRecDepth 100000 in
set_option maxHeartbeats 1000000 in
theorem rc14_b (a b c i : Int) (w : World) : Calls Tryz.prog 8 #[.int .i64 14, .int .i64 a, .int .i64 b, .int .i64 c, .int .i64 i] w fun e w' => e = .returned (.int .i64 (comp 14 a b c i)) ∧ Below w.heap.size w w' := by
  have BB : Below w.heap.size w w := Below.refl _ _
  have w1 := wrapv_rng a
  have w2 := wrapv_rng b
  have CI := Lib.hid (fun W => rint14_b (wrapv a) (wrapv b) W w1.1 w1.2 w2.1 w2.2)
  clear w1 w2
  go_enter Tryz.func8, Tryz.ntmps8
  go_wp2_with (first | (go_at_call 28; (with_reducible refine (rwrap_b _ _).mono ?_); rintro _ _ ⟨rfl, B⟩; replace BB := bon BB B; clear B) | (go_at_call 27; (with_reducible refine (CI.out _).mono ?_); rintro _ _ ⟨rfl, B⟩; replace BB := bon BB B; clear B))
  all_goals
    go_ret
    refine ⟨ret_i64' ?_, BB⟩
    first | (simp [comp, cl, unv, biv]; done) | (simp [comp, cl, unv, biv, absv]; omega) | (simp_all [comp, cl, unv, biv, absv]; done) | rfl

set_option maxRecDepth 100000 in
set_option maxHeartbeats 1000000 in
theorem rc15_b (a b c i : Int) (w : World) : Calls Tryz.prog 8 #[.int .i64 15, .int .i64 a, .int .i64 b, .int .i64 c, .int .i64 i] w fun e w' => e = .returned (.int .i64 (comp 15 a b c i)) ∧ Below w.heap.size w w' := by
  have BB : Below w.heap.size w w := Below.refl _ _
  have w1 := wrapv_rng a
  have w2 := wrapv_rng b
  have CI := Lib.hid (fun W => rint15_b (wrapv a) (wrapv b) W w1.1 w1.2 w2.1 w2.2)
  clear w1 w2
  go_enter Tryz.func8, Tryz.ntmps8
  go_wp2_with (first | (go_at_call 28; (with_reducible refine (rwrap_b _ _).mono ?_); rintro _ _ ⟨rfl, B⟩; replace BB := bon BB B; clear B) | (go_at_call 27; (with_reducible refine (CI.out _).mono ?_); rintro _ _ ⟨rfl, B⟩; replace BB := bon BB B; clear B))
  all_goals
    go_ret
    refine ⟨ret_i64' ?_, BB⟩
    first | (simp [comp, cl, unv, biv]; done) | (simp [comp, cl, unv, biv, absv]; omega) | (simp_all [comp, cl, unv, biv, absv]; done) | rfl

set_option maxRecDepth 100000 in
set_option maxHeartbeats 1000000 in
theorem rc16_b (a b c i : Int) (w : World) : Calls Tryz.prog 8 #[.int .i64 16, .int .i64 a, .int .i64 b, .int .i64 c, .int .i64 i] w fun e w' => e = .returned (.int .i64 (comp 16 a b c i)) ∧ Below w.heap.size w w' := by
  have BB : Below w.heap.size w w := Below.refl _ _
  have w1 := wrapv_rng a
  have w2 := wrapv_rng b
  have CI := Lib.hid (fun W => rint16_b (wrapv a) (wrapv b) W w1.1 w1.2 w2.1 w2.2)
  clear w1 w2
  go_enter Tryz.func8, Tryz.ntmps8
  go_wp2_with (first | (go_at_call 28; (with_reducible refine (rwrap_b _ _).mono ?_); rintro _ _ ⟨rfl, B⟩; replace BB := bon BB B; clear B) | (go_at_call 27; (with_reducible refine (CI.out _).mono ?_); rintro _ _ ⟨rfl, B⟩; replace BB := bon BB B; clear B))
  all_goals
    go_ret
    refine ⟨ret_i64' ?_, BB⟩
    first | (simp [comp, cl, unv, biv]; done) | (simp [comp, cl, unv, biv, absv]; omega) | (simp_all [comp, cl, unv, biv, absv]; done) | rfl

set_option maxRecDepth 100000 in
set_option maxHeartbeats 1000000 in
theorem rc17_b (a b c i : Int) (w : World) : Calls Tryz.prog 8 #[.int .i64 17, .int .i64 a, .int .i64 b, .int .i64 c, .int .i64 i] w fun e w' => e = .returned (.int .i64 (comp 17 a b c i)) ∧ Below w.heap.size w w' := by
  have BB : Below w.heap.size w w := Below.refl _ _
  go_enter Tryz.func8, Tryz.ntmps8
  go_wp2_with (first | (go_at_call 24; (with_reducible refine (rcmp17_b _ _ _).mono ?_); rintro _ _ ⟨rfl, B⟩; replace BB := bon BB B; clear B))
  all_goals
    go_ret
    refine ⟨ret_i64' ?_, BB⟩
    first | (simp [comp, cl, unv, biv]; done) | (simp [comp, cl, unv, biv, absv]; omega) | (simp_all [comp, cl, unv, biv, absv]; done) | rfl

set_option maxRecDepth 100000 in
set_option maxHeartbeats 1000000 in
theorem rc18_b (a b c i : Int) (w : World) : Calls Tryz.prog 8 #[.int .i64 18, .int .i64 a, .int .i64 b, .int .i64 c, .int .i64 i] w fun e w' => e = .returned (.int .i64 (comp 18 a b c i)) ∧ Below w.heap.size w w' := by
  have BB : Below w.heap.size w w := Below.refl _ _
  go_enter Tryz.func8, Tryz.ntmps8
  go_wp2_with (first | (go_at_call 24; (with_reducible refine (rcmp18_b _ _ _).mono ?_); rintro _ _ ⟨rfl, B⟩; replace BB := bon BB B; clear B))
  all_goals
    go_ret
    refine ⟨ret_i64' ?_, BB⟩
    first | (simp [comp, cl, unv, biv]; done) | (simp [comp, cl, unv, biv, absv]; omega) | (simp_all [comp, cl, unv, biv, absv]; done) | rfl

set_option maxRecDepth 100000 in
set_option maxHeartbeats 1000000 in
theorem rc19_b (a b c i : Int) (w : World) : Calls Tryz.prog 8 #[.int .i64 19, .int .i64 a, .int .i64 b, .int .i64 c, .int .i64 i] w fun e w' => e = .returned (.int .i64 (comp 19 a b c i)) ∧ Below w.heap.size w w' := by
  have BB : Below w.heap.size w w := Below.refl _ _
  go_enter Tryz.func8, Tryz.ntmps8
  go_wp2_with (first | (go_at_call 24; (with_reducible refine (rcmp19_b _ _ _).mono ?_); rintro _ _ ⟨rfl, B⟩; replace BB := bon BB B; clear B))
  all_goals
    go_ret
    refine ⟨ret_i64' ?_, BB⟩
    first | (simp [comp, cl, unv, biv]; done) | (simp [comp, cl, unv, biv, absv]; omega) | (simp_all [comp, cl, unv, biv, absv]; done) | rfl

set_option maxRecDepth 100000 in
set_option maxHeartbeats 1000000 in
theorem rc20_b (a b c i : Int) (w : World) : Calls Tryz.prog 8 #[.int .i64 20, .int .i64 a, .int .i64 b, .int .i64 c, .int .i64 i] w fun e w' => e = .returned (.int .i64 (comp 20 a b c i)) ∧ Below w.heap.size w w' := by
  have BB : Below w.heap.size w w := Below.refl _ _
  go_enter Tryz.func8, Tryz.ntmps8
  go_wp2_with (first | (go_at_call 24; (with_reducible refine (rcmp20_b _ _ _).mono ?_); rintro _ _ ⟨rfl, B⟩; replace BB := bon BB B; clear B))
  all_goals
    go_ret
    refine ⟨ret_i64' ?_, BB⟩
    first | (simp [comp, cl, unv, biv]; done) | (simp [comp, cl, unv, biv, absv]; omega) | (simp_all [comp, cl, unv, biv, absv]; done) | rfl

set_option maxRecDepth 100000 in
set_option maxHeartbeats 1000000 in
theorem rc21_b (a b c i : Int) (w : World) : Calls Tryz.prog 8 #[.int .i64 21, .int .i64 a, .int .i64 b, .int .i64 c, .int .i64 i] w fun e w' => e = .returned (.int .i64 (comp 21 a b c i)) ∧ Below w.heap.size w w' := by
  have BB : Below w.heap.size w w := Below.refl _ _
  go_enter Tryz.func8, Tryz.ntmps8
  go_wp2_with (first | (go_at_call 24; (with_reducible refine (rcmp21_b _ _ _).mono ?_); rintro _ _ ⟨rfl, B⟩; replace BB := bon BB B; clear B))
  all_goals
    go_ret
    refine ⟨ret_i64' ?_, BB⟩
    first | (simp [comp, cl, unv, biv]; done) | (simp [comp, cl, unv, biv, absv]; omega) | (simp_all [comp, cl, unv, biv, absv]; done) | rfl

set_option maxRecDepth 100000 in
set_option maxHeartbeats 1000000 in
theorem rc22_b (a b c i : Int) (w : World) : Calls Tryz.prog 8 #[.int .i64 22, .int .i64 a, .int .i64 b, .int .i64 c, .int .i64 i] w fun e w' => e = .returned (.int .i64 (comp 22 a b c i)) ∧ Below w.heap.size w w' := by
  have BB : Below w.heap.size w w := Below.refl _ _
  go_enter Tryz.func8, Tryz.ntmps8
  go_wp2_with (first | (go_at_call 24; (with_reducible refine (rcmp22_b _ _ _).mono ?_); rintro _ _ ⟨rfl, B⟩; replace BB := bon BB B; clear B))
  all_goals
    go_ret
    refine ⟨ret_i64' ?_, BB⟩
    first | (simp [comp, cl, unv, biv]; done) | (simp [comp, cl, unv, biv, absv]; omega) | (simp_all [comp, cl, unv, biv, absv]; done) | rfl

set_option maxRecDepth 100000 in
set_option maxHeartbeats 1000000 in
theorem rc23_b (a b c i : Int) (w : World) : Calls Tryz.prog 8 #[.int .i64 23, .int .i64 a, .int .i64 b, .int .i64 c, .int .i64 i] w fun e w' => e = .returned (.int .i64 (comp 23 a b c i)) ∧ Below w.heap.size w w' := by
  have BB : Below w.heap.size w w := Below.refl _ _
  go_enter Tryz.func8, Tryz.ntmps8
  go_wp2_with (first | (go_at_call 21; (with_reducible refine (rsub_b _ _ _).mono ?_); rintro _ _ ⟨rfl, B⟩; replace BB := bon BB B; clear B) | (go_at_call 25; (with_reducible refine (rsaturate_b _ _).mono ?_); rintro _ _ ⟨rfl, B⟩; replace BB := bon BB B; clear B))
  all_goals
    go_ret
    refine ⟨ret_i64' ?_, BB⟩
    first | (simp [comp, cl, unv, biv]; done) | (simp [comp, cl, unv, biv, absv]; omega) | (simp_all [comp, cl, unv, biv, absv]; done) | rfl

set_option maxRecDepth 100000 in
set_option maxHeartbeats 1000000 in
theorem rc24_b (a b c i : Int) (w : World) : Calls Tryz.prog 8 #[.int .i64 24, .int .i64 a, .int .i64 b, .int .i64 c, .int .i64 i] w fun e w' => e = .returned (.int .i64 (comp 24 a b c i)) ∧ Below w.heap.size w w' := by
  have BB : Below w.heap.size w w := Below.refl _ _
  have w1 := wrapv_rng a
  have w2 := wrapv_rng b
  have CI := Lib.hid (fun W => rint24_b (wrapv a) (wrapv b) W w1.1 w1.2 w2.1 w2.2)
  clear w1 w2
  go_enter Tryz.func8, Tryz.ntmps8
  go_wp2_with (first | (go_at_call 28; (with_reducible refine (rwrap_b _ _).mono ?_); rintro _ _ ⟨rfl, B⟩; replace BB := bon BB B; clear B) | (go_at_call 27; (with_reducible refine (CI.out _).mono ?_); rintro _ _ ⟨rfl, B⟩; replace BB := bon BB B; clear B))
  all_goals
    go_ret
    refine ⟨ret_i64' ?_, BB⟩
    first | (simp [comp, cl, unv, biv]; done) | (simp [comp, cl, unv, biv, absv]; omega) | (simp_all [comp, cl, unv, biv, absv]; done) | rfl

set_option maxRecDepth 100000 in
set_option maxHeartbeats 1000000 in
theorem rc25_b (a b c i : Int) (w : World) : Calls Tryz.prog 8 #[.int .i64 25, .int .i64 a, .int .i64 b, .int .i64 c, .int .i64 i] w fun e w' => e = .returned (.int .i64 (comp 25 a b c i)) ∧ Below w.heap.size w w' := by
  have BB : Below w.heap.size w w := Below.refl _ _
  go_enter Tryz.func8, Tryz.ntmps8
  go_wp2_with (first | (go_at_call 21; (with_reducible refine (rsub_b _ _ _).mono ?_); rintro _ _ ⟨rfl, B⟩; replace BB := bon BB B; clear B))
  all_goals
    go_ret
    refine ⟨ret_i64' ?_, BB⟩
    first | (simp [comp, cl, unv, biv]; done) | (simp [comp, cl, unv, biv, absv]; omega) | (simp_all [comp, cl, unv, biv, absv]; done) | rfl

set_option maxRecDepth 100000 in
set_option maxHeartbeats 1000000 in
theorem rc26_b (a b c i : Int) (w : World) : Calls Tryz.prog 8 #[.int .i64 26, .int .i64 a, .int .i64 b, .int .i64 c, .int .i64 i] w fun e w' => e = .returned (.int .i64 (comp 26 a b c i)) ∧ Below w.heap.size w w' := by
  have BB : Below w.heap.size w w := Below.refl _ _
  have w1 := wrapv_rng a
  have w2 := wrapv_rng b
  have CI := Lib.hid (fun W => rint26_b (wrapv a) (wrapv b) W w1.1 w1.2 w2.1 w2.2)
  clear w1 w2
  go_enter Tryz.func8, Tryz.ntmps8
  go_wp2_with (first | (go_at_call 28; (with_reducible refine (rwrap_b _ _).mono ?_); rintro _ _ ⟨rfl, B⟩; replace BB := bon BB B; clear B) | (go_at_call 27; (with_reducible refine (CI.out _).mono ?_); rintro _ _ ⟨rfl, B⟩; replace BB := bon BB B; clear B))
  all_goals
    go_ret
    refine ⟨ret_i64' ?_, BB⟩
    first | (simp [comp, cl, unv, biv]; done) | (simp [comp, cl, unv, biv, absv]; omega) | (simp_all [comp, cl, unv, biv, absv]; done) | rfl

set_option maxRecDepth 100000 in
set_option maxHeartbeats 1000000 in
theorem rc27_b (a b c i : Int) (w : World) : Calls Tryz.prog 8 #[.int .i64 27, .int .i64 a, .int .i64 b, .int .i64 c, .int .i64 i] w fun e w' => e = .returned (.int .i64 (comp 27 a b c i)) ∧ Below w.heap.size w w' := by
  have BB : Below w.heap.size w w := Below.refl _ _
  have w1 := wrapv_rng a
  have w2 := wrapv_rng b
  have CI := Lib.hid (fun W => rint27_b (wrapv a) (wrapv b) W w1.1 w1.2 w2.1 w2.2)
  clear w1 w2
  go_enter Tryz.func8, Tryz.ntmps8
  go_wp2_with (first | (go_at_call 28; (with_reducible refine (rwrap_b _ _).mono ?_); rintro _ _ ⟨rfl, B⟩; replace BB := bon BB B; clear B) | (go_at_call 27; (with_reducible refine (CI.out _).mono ?_); rintro _ _ ⟨rfl, B⟩; replace BB := bon BB B; clear B))
  all_goals
    go_ret
    refine ⟨ret_i64' ?_, BB⟩
    first | (simp [comp, cl, unv, biv]; done) | (simp [comp, cl, unv, biv, absv]; omega) | (simp_all [comp, cl, unv, biv, absv]; done) | rfl

set_option maxRecDepth 100000 in
set_option maxHeartbeats 1000000 in
theorem rc28_b (a b c i : Int) (w : World) : Calls Tryz.prog 8 #[.int .i64 28, .int .i64 a, .int .i64 b, .int .i64 c, .int .i64 i] w fun e w' => e = .returned (.int .i64 (comp 28 a b c i)) ∧ Below w.heap.size w w' := by
  have BB : Below w.heap.size w w := Below.refl _ _
  go_enter Tryz.func8, Tryz.ntmps8
  go_wp2_with (first | (go_at_call 26; (with_reducible refine (rtruth_q _ _).mono ?_); rintro _ _ ⟨rfl, rfl⟩))
  all_goals
    go_ret
    refine ⟨ret_i64' ?_, BB⟩
    first | (simp [comp, cl, unv, biv]; done) | (simp [comp, cl, unv, biv, absv]; omega) | (simp_all [comp, cl, unv, biv, absv]; done) | rfl

set_option maxRecDepth 100000 in
set_option maxHeartbeats 1000000 in
theorem rc29_b (a b c i : Int) (w : World) : Calls Tryz.prog 8 #[.int .i64 29, .int .i64 a, .int .i64 b, .int .i64 c, .int .i64 i] w fun e w' => e = .returned (.int .i64 (comp 29 a b c i)) ∧ Below w.heap.size w w' := by
  have BB : Below w.heap.size w w := Below.refl _ _
  go_enter Tryz.func8, Tryz.ntmps8
  go_wp2_with (first | (go_at_call 29; (with_reducible refine (rcv29_b _ _ _ _).mono ?_); rintro _ _ ⟨rfl, B⟩; replace BB := bon BB B; clear B))
  all_goals
    go_ret
    refine ⟨ret_i64' ?_, BB⟩
    first | (simp [comp, cl, unv, biv]; done) | (simp [comp, cl, unv, biv, absv]; omega) | (simp_all [comp, cl, unv, biv, absv]; done) | rfl

set_option maxRecDepth 100000 in
set_option maxHeartbeats 1000000 in
theorem rc30_b (a b c i : Int) (w : World) : Calls Tryz.prog 8 #[.int .i64 30, .int .i64 a, .int .i64 b, .int .i64 c, .int .i64 i] w fun e w' => e = .returned (.int .i64 (comp 30 a b c i)) ∧ Below w.heap.size w w' := by
  have BB : Below w.heap.size w w := Below.refl _ _
  go_enter Tryz.func8, Tryz.ntmps8
  go_wp2_with (first | (go_at_call 29; (with_reducible refine (rcv30_b _ _ _ _).mono ?_); rintro _ _ ⟨rfl, B⟩; replace BB := bon BB B; clear B))
  all_goals
    go_ret
    refine ⟨ret_i64' ?_, BB⟩
    first | (simp [comp, cl, unv, biv]; done) | (simp [comp, cl, unv, biv, absv]; omega) | (simp_all [comp, cl, unv, biv, absv]; done) | rfl

set_option maxRecDepth 100000 in
set_option maxHeartbeats 1000000 in
theorem rc31_b (a b c i : Int) (w : World) : Calls Tryz.prog 8 #[.int .i64 31, .int .i64 a, .int .i64 b, .int .i64 c, .int .i64 i] w fun e w' => e = .returned (.int .i64 (comp 31 a b c i)) ∧ Below w.heap.size w w' := by
  have BB : Below w.heap.size w w := Below.refl _ _
  go_enter Tryz.func8, Tryz.ntmps8
  go_wp2_with (first | (go_at_call 29; (with_reducible refine (rcv31_b _ _ _ _).mono ?_); rintro _ _ ⟨rfl, B⟩; replace BB := bon BB B; clear B))
  all_goals
    go_ret
    refine ⟨ret_i64' ?_, BB⟩
    first | (simp [comp, cl, unv, biv]; done) | (simp [comp, cl, unv, biv, absv]; omega) | (simp_all [comp, cl, unv, biv, absv]; done) | rfl

set_option maxRecDepth 100000 in
set_option maxHeartbeats 1000000 in
theorem rc32_b (a b c i : Int) (w : World) : Calls Tryz.prog 8 #[.int .i64 32, .int .i64 a, .int .i64 b, .int .i64 c, .int .i64 i] w fun e w' => e = .returned (.int .i64 (comp 32 a b c i)) ∧ Below w.heap.size w w' := by
  have BB : Below w.heap.size w w := Below.refl _ _
  go_enter Tryz.func8, Tryz.ntmps8
  go_wp2_with (first | (go_at_call 29; (with_reducible refine (rcv32_b _ _ _ _).mono ?_); rintro _ _ ⟨rfl, B⟩; replace BB := bon BB B; clear B))
  all_goals
    go_ret
    refine ⟨ret_i64' ?_, BB⟩
    first | (simp [comp, cl, unv, biv]; done) | (simp [comp, cl, unv, biv, absv]; omega) | (simp_all [comp, cl, unv, biv, absv]; done) | rfl

set_option maxRecDepth 100000 in
set_option maxHeartbeats 1000000 in
theorem rc33_b (a b c i : Int) (w : World) : Calls Tryz.prog 8 #[.int .i64 33, .int .i64 a, .int .i64 b, .int .i64 c, .int .i64 i] w fun e w' => e = .returned (.int .i64 (comp 33 a b c i)) ∧ Below w.heap.size w w' := by
  have BB : Below w.heap.size w w := Below.refl _ _
  go_enter Tryz.func8, Tryz.ntmps8
  go_wp2_with (first | (go_at_call 29; (with_reducible refine (rcv33_b _ _ _ _).mono ?_); rintro _ _ ⟨rfl, B⟩; replace BB := bon BB B; clear B))
  all_goals
    go_ret
    refine ⟨ret_i64' ?_, BB⟩
    first | (simp [comp, cl, unv, biv]; done) | (simp [comp, cl, unv, biv, absv]; omega) | (simp_all [comp, cl, unv, biv, absv]; done) | rfl

set_option maxRecDepth 100000 in
set_option maxHeartbeats 1000000 in
theorem rc34_b (a b c i : Int) (w : World) : Calls Tryz.prog 8 #[.int .i64 34, .int .i64 a, .int .i64 b, .int .i64 c, .int .i64 i] w fun e w' => e = .returned (.int .i64 (comp 34 a b c i)) ∧ Below w.heap.size w w' := by
  have BB : Below w.heap.size w w := Below.refl _ _
  go_enter Tryz.func8, Tryz.ntmps8
  go_wp2_with (first | (go_at_call 29; (with_reducible refine (rcv34_b _ _ _ _).mono ?_); rintro _ _ ⟨rfl, B⟩; replace BB := bon BB B; clear B))
  all_goals
    go_ret
    refine ⟨ret_i64' ?_, BB⟩
    first | (simp [comp, cl, unv, biv]; done) | (simp [comp, cl, unv, biv, absv]; omega) | (simp_all [comp, cl, unv, biv, absv]; done) | rfl

set_option maxRecDepth 100000 in
set_option maxHeartbeats 1000000 in
theorem rc35_b (a b c i : Int) (w : World) : Calls Tryz.prog 8 #[.int .i64 35, .int .i64 a, .int .i64 b, .int .i64 c, .int .i64 i] w fun e w' => e = .returned (.int .i64 (comp 35 a b c i)) ∧ Below w.heap.size w w' := by
  have BB : Below w.heap.size w w := Below.refl _ _
  go_enter Tryz.func8, Tryz.ntmps8
  go_wp2_with (first | (go_at_call 29; (with_reducible refine (rcv35_b _ _ _ _).mono ?_); rintro _ _ ⟨rfl, B⟩; replace BB := bon BB B; clear B))
  all_goals
    go_ret
    refine ⟨ret_i64' ?_, BB⟩
    first | (simp [comp, cl, unv, biv]; done) | (simp [comp, cl, unv, biv, absv]; omega) | (simp_all [comp, cl, unv, biv, absv]; done) | rfl

set_option maxRecDepth 100000 in
set_option maxHeartbeats 1000000 in
theorem rc36_b (a b c i : Int) (w : World) : Calls Tryz.prog 8 #[.int .i64 36, .int .i64 a, .int .i64 b, .int .i64 c, .int .i64 i] w fun e w' => e = .returned (.int .i64 (comp 36 a b c i)) ∧ Below w.heap.size w w' := by
  have BB : Below w.heap.size w w := Below.refl _ _
  go_enter Tryz.func8, Tryz.ntmps8
  go_wp2_with (first | (go_at_call 29; (with_reducible refine (rcv36_b _ _ _ _).mono ?_); rintro _ _ ⟨rfl, B⟩; replace BB := bon BB B; clear B))
  all_goals
    go_ret
    refine ⟨ret_i64' ?_, BB⟩
    first | (simp [comp, cl, unv, biv]; done) | (simp [comp, cl, unv, biv, absv]; omega) | (simp_all [comp, cl, unv, biv, absv]; done) | rfl

theorem comp_0 (o a b c i : Int) (ho : o < 1 ∨ 36 < o) : comp o a b c i = 0 := by
  have n1 : cl o ≠ 1 := by unfold cl; grind (splits := 40)
  have n2 : cl o ≠ 2 := by unfold cl; grind (splits := 40)
  have n3 : cl o ≠ 3 := by unfold cl; grind (splits := 40)
  have n4 : cl o ≠ 4 := by unfold cl; grind (splits := 40)
  unfold comp
  rw [if_neg n1, if_neg n2, if_neg n3, if_neg n4]

set_option maxRecDepth 100000 in
set_option maxHeartbeats 4000000 in
theorem rc0_b (o a b c i : Int) (w : World) (ho : o < 1 ∨ 36 < o) : Calls Tryz.prog 8 #[.int .i64 o, .int .i64 a, .int .i64 b, .int .i64 c, .int .i64 i] w fun e w' => e = .returned (.int .i64 (comp o a b c i)) ∧ Below w.heap.size w w' := by
  have BB : Below w.heap.size w w := Below.refl _ _
  rw [comp_0 o a b c i ho]
  have CV := Lib.hid (fun W => rcv0_b o a b c W ho)
  have e1 : (o == 1) = false := by simp; omega
  have e2 : (o == 2) = false := by simp; omega
  have e3 : (o == 3) = false := by simp; omega
  have e4 : (o == 4) = false := by simp; omega
  have e5 : (o == 5) = false := by simp; omega
  have e6 : (o == 6) = false := by simp; omega
  have e17 : (o == 17) = false := by simp; omega
  have e18 : (o == 18) = false := by simp; omega
  have e19 : (o == 19) = false := by simp; omega
  have e20 : (o == 20) = false := by simp; omega
  have e21 : (o == 21) = false := by simp; omega
  have e22 : (o == 22) = false := by simp; omega
  have e23 : (o == 23) = false := by simp; omega
  have e24 : (o == 24) = false := by simp; omega
  have e25 : (o == 25) = false := by simp; omega
  have e26 : (o == 26) = false := by simp; omega
  have e27 : (o == 27) = false := by simp; omega
  have e28 : (o == 28) = false := by simp; omega
  go_enter Tryz.func8, Tryz.ntmps8
  go_wp2_with (go_at_call 29; (with_reducible refine (CV.out _).mono ?_); rintro _ _ ⟨rfl, B⟩; replace BB := bon BB B; clear B)
  all_goals first
    | (exfalso; omega)
    | (go_ret; exact ⟨rfl, BB⟩)

theorem rcompute_b (o a b c i : Int) (w : World) : Calls Tryz.prog 8 #[.int .i64 o, .int .i64 a, .int .i64 b, .int .i64 c, .int .i64 i] w fun e w' => e = .returned (.int .i64 (comp o a b c i)) ∧ Below w.heap.size w w' := by
  by_cases ho : o < 1 ∨ 36 < o
  · exact rc0_b o a b c i w ho
  rcases (show o = 1 ∨ o = 2 ∨ o = 3 ∨ o = 4 ∨ o = 5 ∨ o = 6 ∨ o = 7 ∨ o = 8 ∨ o = 9 ∨ o = 10 ∨ o = 11 ∨ o = 12 ∨ o = 13 ∨ o = 14 ∨ o = 15 ∨ o = 16 ∨ o = 17 ∨ o = 18 ∨ o = 19 ∨ o = 20 ∨ o = 21 ∨ o = 22 ∨ o = 23 ∨ o = 24 ∨ o = 25 ∨ o = 26 ∨ o = 27 ∨ o = 28 ∨ o = 29 ∨ o = 30 ∨ o = 31 ∨ o = 32 ∨ o = 33 ∨ o = 34 ∨ o = 35 ∨ o = 36 by omega) with rfl | rfl | rfl | rfl | rfl | rfl | rfl | rfl | rfl | rfl | rfl | rfl | rfl | rfl | rfl | rfl | rfl | rfl | rfl | rfl | rfl | rfl | rfl | rfl | rfl | rfl | rfl | rfl | rfl | rfl | rfl | rfl | rfl | rfl | rfl | rfl
  · exact rc1_b a b c i w
  · exact rc2_b a b c i w
  · exact rc3_b a b c i w
  · exact rc4_b a b c i w
  · exact rc5_b a b c i w
  · exact rc6_b a b c i w
  · exact rc7_b a b c i w
  · exact rc8_b a b c i w
  · exact rc9_b a b c i w
  · exact rc10_b a b c i w
  · exact rc11_b a b c i w
  · exact rc12_b a b c i w
  · exact rc13_b a b c i w
  · exact rc14_b a b c i w
  · exact rc15_b a b c i w
  · exact rc16_b a b c i w
  · exact rc17_b a b c i w
  · exact rc18_b a b c i w
  · exact rc19_b a b c i w
  · exact rc20_b a b c i w
  · exact rc21_b a b c i w
  · exact rc22_b a b c i w
  · exact rc23_b a b c i w
  · exact rc24_b a b c i w
  · exact rc25_b a b c i w
  · exact rc26_b a b c i w
  · exact rc27_b a b c i w
  · exact rc28_b a b c i w
  · exact rc29_b a b c i w
  · exact rc30_b a b c i w
  · exact rc31_b a b c i w
  · exact rc32_b a b c i w
  · exact rc33_b a b c i w
  · exact rc34_b a b c i w
  · exact rc35_b a b c i w
  · exact rc36_b a b c i w

end Go.Proofs.YtnhnbblplnhmlaaGreatDoor
