/- What package isa computes. -/
import Derived.Test.YtnhnbblplnhmlaaGreatDoorU1
import Derived.Test.YtnhnbblplnhmlaaGreatDoorMini3
namespace Go.Proofs.YtnhnbblplnhmlaaGreatDoor
set_option linter.unusedSimpArgs false
open Go.RowKit Go.Sort
set_option linter.unusedVariables false

theorem truth_q (x : Bool) (w : World) : Calls Tryz.prog 46 #[.bool x] w fun e w' => e = .returned (.int .i64 (tru x)) ∧ w = w' := by
  cases x
  all_goals
    go_enter Tryz.func46, Tryz.ntmps46
    go_wp2
    go_ret
    exact ⟨rfl, rfl⟩

theorem absolute_b (a : Int) (w : World) : Calls Tryz.prog 42 #[.int .i64 a] w fun e w' => e = .returned (.int .i64 (absv a)) ∧ Below w.heap.size w w' := by
  have BB : Below w.heap.size w w := Below.refl _ _
  by_cases h : a < 0
  all_goals
    go_enter Tryz.func42, Tryz.ntmps42
    go_wp2_with (first | (go_at_call 45; refine (sub_b _ _ _).mono ?_; rintro _ _ ⟨rfl, B⟩; replace BB := bon BB B) | (go_at_call 52; refine (saturate_b _ _).mono ?_; rintro _ _ ⟨rfl, B⟩; replace BB := bon BB B))
    go_ret
    exact ⟨ret_i64' (by unfold absv; first | rw [if_pos h] | rw [if_neg (by omega)]), BB⟩

theorem absoluteInt_b (a : Int) (w : World) (h1 : -2147483648 ≤ a) (h2 : a ≤ 2147483647) : Calls Tryz.prog 43 #[.int .i64 a] w fun e w' => e = .returned (.int .i64 (wrapv (abi a))) ∧ Below w.heap.size w w' := by
  have BB : Below w.heap.size w w := Below.refl _ _
  by_cases h : a < 0
  all_goals
    go_enter Tryz.func43, Tryz.ntmps43
    go_wp2_with (first | (go_at_call 44; refine (wrap_b _ _).mono ?_; rintro _ _ ⟨rfl, B⟩; replace BB := bon BB B))
    go_ret
    exact ⟨ret_i64' (by unfold abi; first | (rw [if_pos h]; done) | (rw [if_neg (by omega), wrapv_id h1 h2])), BB⟩

theorem tdiv_rng {a b : Int} (h1 : -2147483648 ≤ a) (h2 : a ≤ 2147483647) (hb : b ≠ 0) : -2147483648 ≤ a.tdiv b ∧ a.tdiv b ≤ 2147483648 := by
  have h : (a.tdiv b).natAbs ≤ a.natAbs := by rw [Int.natAbs_tdiv]; exact Nat.div_le_self _ _
  omega

theorem divide_b (o a b : Int) (w : World) (ho : o = 10 ∨ o = 11) (h1 : -2147483648 ≤ a) (h2 : a ≤ 2147483647) (h3 : -2147483648 ≤ b) (h4 : b ≤ 2147483647) :
    Calls Tryz.prog 95 #[.int .i64 o, .int .i64 a, .int .i64 b] w fun e w' => e = .returned (.int .i64 (if o = 10 then divi a b else modi a b)) ∧ Below w.heap.size w w' := by
  have BB : Below w.heap.size w w := Below.refl _ _
  rcases ho with rfl | rfl
  all_goals
    by_cases hb : b = 0
    · subst hb
      go_enter Tryz.func95, Tryz.ntmps95
      go_wp2
      go_ret
      exact ⟨rfl, BB⟩
    · have q := tdiv_rng h1 h2 hb
      have hb2 : (b == 0) = false := by simpa using hb
      go_enter Tryz.func95, Tryz.ntmps95
      go_wp2_with (first | (go_at_call 44; refine (wrap_b _ _).mono ?_; rintro _ _ ⟨rfl, B⟩; replace BB := bon BB B))
      go_ret
      exact ⟨ret_i64' (by first | (unfold divi; rw [if_neg hb]) | (unfold modi; rw [if_neg hb])), BB⟩

theorem pw31 (k : Int) (h0 : 0 ≤ k) (h1 : k < 32) : 1 ≤ (2 : Int) ^ k.toNat ∧ (2 : Int) ^ k.toNat ≤ 2147483648 := by
  refine ⟨pow_pos2 _, ?_⟩
  have h := Nat.pow_le_pow_right (show 0 < 2 by decide) (show k.toNat ≤ 31 by omega)
  have e : ((2 ^ k.toNat : Nat) : Int) = (2 : Int) ^ k.toNat := by simp
  rw [← e]
  exact Int.ofNat_le.2 h

theorem shl_rng {a p : Int} (h1 : -2147483648 ≤ a) (h2 : a ≤ 2147483647) (h3 : 1 ≤ p) (h4 : p ≤ 2147483648) : -4611686018427387904 ≤ a * p ∧ a * p ≤ 4611686018427387904 := by
  have := prod_bd a p 2147483648 ⟨by omega, by omega⟩ ⟨by omega, by omega⟩
  omega

theorem and31 (b : Int) : bits .and .i64 b 31 = shf b := and_pw b 5 (by decide) (by decide)

theorem shf_rng (b : Int) : 0 ≤ shf b ∧ shf b < 32 := by unfold shf; omega

set_option maxRecDepth 100000 in
theorem computeInts_b (o a b : Int) (w : World) (ho : 7 ≤ o ∧ o ≤ 16) (h1 : -2147483648 ≤ a) (h2 : a ≤ 2147483647) (h3 : -2147483648 ≤ b) (h4 : b ≤ 2147483647) :
    Calls Tryz.prog 56 #[.int .i64 o, .int .i64 a, .int .i64 b] w fun e w' => e = .returned (.int .i64 (inv o a b)) ∧ Below w.heap.size w w' := by
  have BB : Below w.heap.size w w := Below.refl _ _
  have hm := prod_bd a b 2147483648 ⟨by omega, by omega⟩ ⟨by omega, by omega⟩
  have hs := shf_rng b
  have hp := pw31 (shf b) hs.1 hs.2
  have hl := shl_rng h1 h2 hp.1 hp.2
  have e31 := and31 b
  obtain ⟨s, hs2⟩ : ∃ s, shf b = s := ⟨_, rfl⟩
  rw [hs2] at hs hp hl e31
  have HS := Lib.hid hs2
  have HW := Lib.hid (IntWalk.i64_in (a * 2 ^ s.toNat) (by omega))
  clear hs2
  rcases (show o = 7 ∨ o = 8 ∨ o = 9 ∨ o = 10 ∨ o = 11 ∨ o = 12 ∨ o = 13 ∨ o = 14 ∨ o = 15 ∨ o = 16 by omega) with rfl | rfl | rfl | rfl | rfl | rfl | rfl | rfl | rfl | rfl
  all_goals
    go_enter Tryz.func56, Tryz.ntmps56
    go_wp2_with (first | (go_at_call 44; refine (wrap_b _ _).mono ?_; rintro _ _ ⟨rfl, B⟩; replace BB := bon BB B) | (go_at_call 95; refine (divide_b _ _ _ _ (by omega) h1 h2 h3 h4).mono ?_; rintro _ _ ⟨rfl, B⟩; replace BB := bon BB B))
    go_ret
    refine ⟨ret_i64' ?_, BB⟩
    unfold inv
    first | (simp; done) | (simp [HS.out]; done) | rfl

/-! ### by opcode -/

set_option maxRecDepth 100000 in
theorem un2_b (a : Int) (w : World) : Calls Tryz.prog 18 #[.int .i64 2, .int .i64 a] w fun e w' => e = .returned (.int .i64 (unv 2 a)) ∧ Below w.heap.size w w' := by
  have BB : Below w.heap.size w w := Below.refl _ _
  go_enter Tryz.func18, Tryz.ntmps18
  go_wp2
  go_ret
  refine ⟨ret_i64' ?_, BB⟩
  unfold unv
  first | (simp; done) | (simp []; done) | rfl

set_option maxRecDepth 100000 in
theorem un23_b (a : Int) (w : World) : Calls Tryz.prog 18 #[.int .i64 23, .int .i64 a] w fun e w' => e = .returned (.int .i64 (unv 23 a)) ∧ Below w.heap.size w w' := by
  have BB : Below w.heap.size w w := Below.refl _ _
  go_enter Tryz.func18, Tryz.ntmps18
  go_wp2_with (first | (go_at_call 42; refine (absolute_b _ _).mono ?_; rintro _ _ ⟨rfl, B⟩; replace BB := bon BB B; clear B))
  go_ret
  refine ⟨ret_i64' ?_, BB⟩
  unfold unv
  first | (simp; done) | (simp []; done) | rfl

set_option maxRecDepth 100000 in
theorem un24_b (a : Int) (w : World) : Calls Tryz.prog 18 #[.int .i64 24, .int .i64 a] w fun e w' => e = .returned (.int .i64 (unv 24 a)) ∧ Below w.heap.size w w' := by
  have BB : Below w.heap.size w w := Below.refl _ _
  obtain ⟨x, hx⟩ : ∃ x, wrapv a = x := ⟨_, rfl⟩
  have hw := wrapv_rng a
  have CW := Lib.hid (fun W => wrap_b a W)
  rw [hx] at hw CW
  have HX := Lib.hid hx
  clear hx
  go_enter Tryz.func18, Tryz.ntmps18
  go_wp2_with (first | (go_at_call 44; (first | (with_reducible refine (CW.out _).mono ?_) | refine (wrap_b _ _).mono ?_); rintro _ _ ⟨rfl, B⟩; replace BB := bon BB B; clear B) | (go_at_call 43; refine (absoluteInt_b _ _ (by omega) (by omega)).mono ?_; rintro _ _ ⟨rfl, B⟩; replace BB := bon BB B; clear B))
  go_ret
  refine ⟨ret_i64' ?_, BB⟩
  unfold unv
  first | (simp; done) | (simp [HX.out]; done) | rfl

set_option maxRecDepth 100000 in
theorem un25_b (a : Int) (w : World) : Calls Tryz.prog 18 #[.int .i64 25, .int .i64 a] w fun e w' => e = .returned (.int .i64 (unv 25 a)) ∧ Below w.heap.size w w' := by
  have BB : Below w.heap.size w w := Below.refl _ _
  go_enter Tryz.func18, Tryz.ntmps18
  go_wp2_with (first | (go_at_call 45; refine (sub_b _ _ _).mono ?_; rintro _ _ ⟨rfl, B⟩; replace BB := bon BB B; clear B))
  go_ret
  refine ⟨ret_i64' ?_, BB⟩
  unfold unv
  first | (simp; done) | (simp []; done) | rfl

set_option maxRecDepth 100000 in
theorem un26_b (a : Int) (w : World) : Calls Tryz.prog 18 #[.int .i64 26, .int .i64 a] w fun e w' => e = .returned (.int .i64 (unv 26 a)) ∧ Below w.heap.size w w' := by
  have BB : Below w.heap.size w w := Below.refl _ _
  obtain ⟨x, hx⟩ : ∃ x, wrapv a = x := ⟨_, rfl⟩
  have hw := wrapv_rng a
  have CW := Lib.hid (fun W => wrap_b a W)
  rw [hx] at hw CW
  have HX := Lib.hid hx
  clear hx
  go_enter Tryz.func18, Tryz.ntmps18
  go_wp2_with (first | (go_at_call 44; (first | (with_reducible refine (CW.out _).mono ?_) | refine (wrap_b _ _).mono ?_); rintro _ _ ⟨rfl, B⟩; replace BB := bon BB B; clear B))
  go_ret
  refine ⟨ret_i64' ?_, BB⟩
  unfold unv
  first | (simp; done) | (simp [HX.out]; done) | rfl

set_option maxRecDepth 100000 in
theorem un27_b (a : Int) (w : World) : Calls Tryz.prog 18 #[.int .i64 27, .int .i64 a] w fun e w' => e = .returned (.int .i64 (unv 27 a)) ∧ Below w.heap.size w w' := by
  have BB : Below w.heap.size w w := Below.refl _ _
  obtain ⟨x, hx⟩ : ∃ x, wrapv a = x := ⟨_, rfl⟩
  have hw := wrapv_rng a
  have CW := Lib.hid (fun W => wrap_b a W)
  rw [hx] at hw CW
  have HX := Lib.hid hx
  clear hx
  go_enter Tryz.func18, Tryz.ntmps18
  go_wp2_with (first | (go_at_call 44; (first | (with_reducible refine (CW.out _).mono ?_) | refine (wrap_b _ _).mono ?_); rintro _ _ ⟨rfl, B⟩; replace BB := bon BB B; clear B))
  go_ret
  refine ⟨ret_i64' ?_, BB⟩
  unfold unv
  first | (simp; done) | (simp [HX.out]; done) | rfl

set_option maxRecDepth 100000 in
theorem un28_b (a : Int) (w : World) : Calls Tryz.prog 18 #[.int .i64 28, .int .i64 a] w fun e w' => e = .returned (.int .i64 (unv 28 a)) ∧ Below w.heap.size w w' := by
  have BB : Below w.heap.size w w := Below.refl _ _
  go_enter Tryz.func18, Tryz.ntmps18
  go_wp2_with (first | (go_at_call 46; refine (truth_q _ _).mono ?_; rintro _ _ ⟨rfl, rfl⟩))
  go_ret
  refine ⟨ret_i64' ?_, BB⟩
  unfold unv
  first | (simp; done) | (simp []; done) | rfl

set_option maxRecDepth 100000 in
theorem un29_b (a : Int) (w : World) : Calls Tryz.prog 18 #[.int .i64 29, .int .i64 a] w fun e w' => e = .returned (.int .i64 (unv 29 a)) ∧ Below w.heap.size w w' := by
  have BB : Below w.heap.size w w := Below.refl _ _
  go_enter Tryz.func18, Tryz.ntmps18
  go_wp2_with (first | (go_at_call 47; refine (floor_b _ _).mono ?_; rintro _ _ ⟨rfl, B⟩; replace BB := bon BB B; clear B))
  go_ret
  refine ⟨ret_i64' ?_, BB⟩
  unfold unv
  first | (simp; done) | (simp []; done) | rfl

set_option maxRecDepth 100000 in
theorem un30_b (a : Int) (w : World) : Calls Tryz.prog 18 #[.int .i64 30, .int .i64 a] w fun e w' => e = .returned (.int .i64 (unv 30 a)) ∧ Below w.heap.size w w' := by
  have BB : Below w.heap.size w w := Below.refl _ _
  go_enter Tryz.func18, Tryz.ntmps18
  go_wp2_with (first | (go_at_call 48; refine (fract_b _ _).mono ?_; rintro _ _ ⟨rfl, B⟩; replace BB := bon BB B; clear B))
  go_ret
  refine ⟨ret_i64' ?_, BB⟩
  unfold unv
  first | (simp; done) | (simp []; done) | rfl

set_option maxRecDepth 100000 in
theorem un31_b (a : Int) (w : World) : Calls Tryz.prog 18 #[.int .i64 31, .int .i64 a] w fun e w' => e = .returned (.int .i64 (unv 31 a)) ∧ Below w.heap.size w w' := by
  have BB : Below w.heap.size w w := Below.refl _ _
  go_enter Tryz.func18, Tryz.ntmps18
  go_wp2_with (first | (go_at_call 49; refine (sqrt_b _ _).mono ?_; rintro _ _ ⟨rfl, B⟩; replace BB := bon BB B; clear B))
  go_ret
  refine ⟨ret_i64' ?_, BB⟩
  unfold unv
  first | (simp; done) | (simp []; done) | rfl

set_option maxRecDepth 100000 in
theorem un32_b (a : Int) (w : World) : Calls Tryz.prog 18 #[.int .i64 32, .int .i64 a] w fun e w' => e = .returned (.int .i64 (unv 32 a)) ∧ Below w.heap.size w w' := by
  have BB : Below w.heap.size w w := Below.refl _ _
  go_enter Tryz.func18, Tryz.ntmps18
  go_wp2_with (first | (go_at_call 51; refine (half_b _).mono ?_; rintro _ _ ⟨rfl, B⟩; replace BB := bon BB B; clear B) | (go_at_call 50; refine (quantize_yes 5 10 _ true _ (by decide) (by decide) (by decide) (by decide)).mono ?_; rintro _ _ ⟨rfl, B⟩; replace BB := bon BB B; clear B))
  go_ret
  refine ⟨ret_i64' ?_, BB⟩
  unfold unv
  first | (simp; done) | (simp []; done) | rfl

set_option maxRecDepth 100000 in
theorem un33_b (a : Int) (w : World) : Calls Tryz.prog 18 #[.int .i64 33, .int .i64 a] w fun e w' => e = .returned (.int .i64 (unv 33 a)) ∧ Below w.heap.size w w' := by
  have BB : Below w.heap.size w w := Below.refl _ _
  obtain ⟨x, hx⟩ : ∃ x, wrapv a = x := ⟨_, rfl⟩
  have hw := wrapv_rng a
  have CW := Lib.hid (fun W => wrap_b a W)
  rw [hx] at hw CW
  have HX := Lib.hid hx
  clear hx
  obtain ⟨y, hy⟩ : ∃ y, sat a = y := ⟨_, rfl⟩
  have hs := sat_bd a
  have CS := Lib.hid (fun W => saturate_b a W)
  rw [hy] at hs CS
  have HY := Lib.hid hy
  clear hy
  go_enter Tryz.func18, Tryz.ntmps18
  go_wp2_with (first | (go_at_call 44; (first | (with_reducible refine (CW.out _).mono ?_) | refine (wrap_b _ _).mono ?_); rintro _ _ ⟨rfl, B⟩; replace BB := bon BB B; clear B) | (go_at_call 52; (first | (with_reducible refine (CS.out _).mono ?_) | refine (saturate_b _ _).mono ?_); rintro _ _ ⟨rfl, B⟩; replace BB := bon BB B; clear B))
  go_ret
  refine ⟨ret_i64' ?_, BB⟩
  unfold unv
  first | (simp; done) | (simp [HX.out, HY.out]; done) | rfl

set_option maxRecDepth 100000 in
theorem un34_b (a : Int) (w : World) : Calls Tryz.prog 18 #[.int .i64 34, .int .i64 a] w fun e w' => e = .returned (.int .i64 (unv 34 a)) ∧ Below w.heap.size w w' := by
  have BB : Below w.heap.size w w := Below.refl _ _
  obtain ⟨y, hy⟩ : ∃ y, sat a = y := ⟨_, rfl⟩
  have hs := sat_bd a
  have CS := Lib.hid (fun W => saturate_b a W)
  rw [hy] at hs CS
  have HY := Lib.hid hy
  clear hy
  go_enter Tryz.func18, Tryz.ntmps18
  go_wp2_with (first | (go_at_call 52; (first | (with_reducible refine (CS.out _).mono ?_) | refine (saturate_b _ _).mono ?_); rintro _ _ ⟨rfl, B⟩; replace BB := bon BB B; clear B))
  go_ret
  refine ⟨ret_i64' ?_, BB⟩
  unfold unv
  first | (simp; done) | (simp [HY.out]; done) | rfl

set_option maxRecDepth 100000 in
theorem un35_b (a : Int) (w : World) : Calls Tryz.prog 18 #[.int .i64 35, .int .i64 a] w fun e w' => e = .returned (.int .i64 (unv 35 a)) ∧ Below w.heap.size w w' := by
  have BB : Below w.heap.size w w := Below.refl _ _
  go_enter Tryz.func18, Tryz.ntmps18
  go_wp2_with (first | (go_at_call 46; refine (truth_q _ _).mono ?_; rintro _ _ ⟨rfl, rfl⟩))
  go_ret
  refine ⟨ret_i64' ?_, BB⟩
  unfold unv
  first | (simp; done) | (simp []; done) | rfl

theorem computeUnary_b (o a : Int) (w : World) (ho : o = 2 ∨ 23 ≤ o ∧ o ≤ 35) :
    Calls Tryz.prog 18 #[.int .i64 o, .int .i64 a] w fun e w' => e = .returned (.int .i64 (unv o a)) ∧ Below w.heap.size w w' := by
  rcases (show o = 2 ∨ o = 23 ∨ o = 24 ∨ o = 25 ∨ o = 26 ∨ o = 27 ∨ o = 28 ∨ o = 29 ∨ o = 30 ∨ o = 31 ∨ o = 32 ∨ o = 33 ∨ o = 34 ∨ o = 35 by omega) with rfl | rfl | rfl | rfl | rfl | rfl | rfl | rfl | rfl | rfl | rfl | rfl | rfl | rfl
  · exact un2_b a w
  · exact un23_b a w
  · exact un24_b a w
  · exact un25_b a w
  · exact un26_b a w
  · exact un27_b a w
  · exact un28_b a w
  · exact un29_b a w
  · exact un30_b a w
  · exact un31_b a w
  · exact un32_b a w
  · exact un33_b a w
  · exact un34_b a w
  · exact un35_b a w

set_option maxRecDepth 100000 in
theorem bi3_b (a b : Int) (w : World) : Calls Tryz.prog 19 #[.int .i64 3, .int .i64 a, .int .i64 b] w fun e w' => e = .returned (.int .i64 (biv 3 a b)) ∧ Below w.heap.size w w' := by
  have BB : Below w.heap.size w w := Below.refl _ _
  go_enter Tryz.func19, Tryz.ntmps19
  go_wp2_with (first | (go_at_call 53; refine (add_b _ _ _).mono ?_; rintro _ _ ⟨rfl, B⟩; replace BB := bon BB B; clear B))
  all_goals
    go_ret
    refine ⟨ret_i64' ?_, BB⟩
    unfold biv
    first | (simp; done) | (simp; omega) | rfl

set_option maxRecDepth 100000 in
theorem bi4_b (a b : Int) (w : World) : Calls Tryz.prog 19 #[.int .i64 4, .int .i64 a, .int .i64 b] w fun e w' => e = .returned (.int .i64 (biv 4 a b)) ∧ Below w.heap.size w w' := by
  have BB : Below w.heap.size w w := Below.refl _ _
  go_enter Tryz.func19, Tryz.ntmps19
  go_wp2_with (first | (go_at_call 45; refine (sub_b _ _ _).mono ?_; rintro _ _ ⟨rfl, B⟩; replace BB := bon BB B; clear B))
  all_goals
    go_ret
    refine ⟨ret_i64' ?_, BB⟩
    unfold biv
    first | (simp; done) | (simp; omega) | rfl

set_option maxRecDepth 100000 in
theorem bi5_b (a b : Int) (w : World) : Calls Tryz.prog 19 #[.int .i64 5, .int .i64 a, .int .i64 b] w fun e w' => e = .returned (.int .i64 (biv 5 a b)) ∧ Below w.heap.size w w' := by
  have BB : Below w.heap.size w w := Below.refl _ _
  go_enter Tryz.func19, Tryz.ntmps19
  go_wp2_with (first | (go_at_call 54; refine (mul_b _ _ _).mono ?_; rintro _ _ ⟨rfl, B⟩; replace BB := bon BB B; clear B))
  all_goals
    go_ret
    refine ⟨ret_i64' ?_, BB⟩
    unfold biv
    first | (simp; done) | (simp; omega) | rfl

set_option maxRecDepth 100000 in
theorem bi6_b (a b : Int) (w : World) : Calls Tryz.prog 19 #[.int .i64 6, .int .i64 a, .int .i64 b] w fun e w' => e = .returned (.int .i64 (biv 6 a b)) ∧ Below w.heap.size w w' := by
  have BB : Below w.heap.size w w := Below.refl _ _
  go_enter Tryz.func19, Tryz.ntmps19
  go_wp2_with (first | (go_at_call 55; refine (div_b _ _ _).mono ?_; rintro _ _ ⟨rfl, B⟩; replace BB := bon BB B; clear B))
  all_goals
    go_ret
    refine ⟨ret_i64' ?_, BB⟩
    unfold biv
    first | (simp; done) | (simp; omega) | rfl

set_option maxRecDepth 100000 in
theorem bi7_b (a b : Int) (w : World) : Calls Tryz.prog 19 #[.int .i64 7, .int .i64 a, .int .i64 b] w fun e w' => e = .returned (.int .i64 (biv 7 a b)) ∧ Below w.heap.size w w' := by
  have BB : Below w.heap.size w w := Below.refl _ _
  have h1 := wrapv_rng a
  have h2 := wrapv_rng b
  have CI := Lib.hid (fun W => computeInts_b 7 (wrapv a) (wrapv b) W (by omega) h1.1 h1.2 h2.1 h2.2)
  clear h1 h2
  go_enter Tryz.func19, Tryz.ntmps19
  go_wp2_with (first | (go_at_call 44; refine (wrap_b _ _).mono ?_; rintro _ _ ⟨rfl, B⟩; replace BB := bon BB B; clear B) | (go_at_call 56; refine (CI.out _).mono ?_; rintro _ _ ⟨rfl, B⟩; replace BB := bon BB B; clear B))
  all_goals
    go_ret
    refine ⟨ret_i64' ?_, BB⟩
    unfold biv
    first | (simp; done) | (simp; omega) | rfl

set_option maxRecDepth 100000 in
theorem bi8_b (a b : Int) (w : World) : Calls Tryz.prog 19 #[.int .i64 8, .int .i64 a, .int .i64 b] w fun e w' => e = .returned (.int .i64 (biv 8 a b)) ∧ Below w.heap.size w w' := by
  have BB : Below w.heap.size w w := Below.refl _ _
  have h1 := wrapv_rng a
  have h2 := wrapv_rng b
  have CI := Lib.hid (fun W => computeInts_b 8 (wrapv a) (wrapv b) W (by omega) h1.1 h1.2 h2.1 h2.2)
  clear h1 h2
  go_enter Tryz.func19, Tryz.ntmps19
  go_wp2_with (first | (go_at_call 44; refine (wrap_b _ _).mono ?_; rintro _ _ ⟨rfl, B⟩; replace BB := bon BB B; clear B) | (go_at_call 56; refine (CI.out _).mono ?_; rintro _ _ ⟨rfl, B⟩; replace BB := bon BB B; clear B))
  all_goals
    go_ret
    refine ⟨ret_i64' ?_, BB⟩
    unfold biv
    first | (simp; done) | (simp; omega) | rfl

set_option maxRecDepth 100000 in
theorem bi9_b (a b : Int) (w : World) : Calls Tryz.prog 19 #[.int .i64 9, .int .i64 a, .int .i64 b] w fun e w' => e = .returned (.int .i64 (biv 9 a b)) ∧ Below w.heap.size w w' := by
  have BB : Below w.heap.size w w := Below.refl _ _
  have h1 := wrapv_rng a
  have h2 := wrapv_rng b
  have CI := Lib.hid (fun W => computeInts_b 9 (wrapv a) (wrapv b) W (by omega) h1.1 h1.2 h2.1 h2.2)
  clear h1 h2
  go_enter Tryz.func19, Tryz.ntmps19
  go_wp2_with (first | (go_at_call 44; refine (wrap_b _ _).mono ?_; rintro _ _ ⟨rfl, B⟩; replace BB := bon BB B; clear B) | (go_at_call 56; refine (CI.out _).mono ?_; rintro _ _ ⟨rfl, B⟩; replace BB := bon BB B; clear B))
  all_goals
    go_ret
    refine ⟨ret_i64' ?_, BB⟩
    unfold biv
    first | (simp; done) | (simp; omega) | rfl

set_option maxRecDepth 100000 in
theorem bi10_b (a b : Int) (w : World) : Calls Tryz.prog 19 #[.int .i64 10, .int .i64 a, .int .i64 b] w fun e w' => e = .returned (.int .i64 (biv 10 a b)) ∧ Below w.heap.size w w' := by
  have BB : Below w.heap.size w w := Below.refl _ _
  have h1 := wrapv_rng a
  have h2 := wrapv_rng b
  have CI := Lib.hid (fun W => computeInts_b 10 (wrapv a) (wrapv b) W (by omega) h1.1 h1.2 h2.1 h2.2)
  clear h1 h2
  go_enter Tryz.func19, Tryz.ntmps19
  go_wp2_with (first | (go_at_call 44; refine (wrap_b _ _).mono ?_; rintro _ _ ⟨rfl, B⟩; replace BB := bon BB B; clear B) | (go_at_call 56; refine (CI.out _).mono ?_; rintro _ _ ⟨rfl, B⟩; replace BB := bon BB B; clear B))
  all_goals
    go_ret
    refine ⟨ret_i64' ?_, BB⟩
    unfold biv
    first | (simp; done) | (simp; omega) | rfl

set_option maxRecDepth 100000 in
theorem bi11_b (a b : Int) (w : World) : Calls Tryz.prog 19 #[.int .i64 11, .int .i64 a, .int .i64 b] w fun e w' => e = .returned (.int .i64 (biv 11 a b)) ∧ Below w.heap.size w w' := by
  have BB : Below w.heap.size w w := Below.refl _ _
  have h1 := wrapv_rng a
  have h2 := wrapv_rng b
  have CI := Lib.hid (fun W => computeInts_b 11 (wrapv a) (wrapv b) W (by omega) h1.1 h1.2 h2.1 h2.2)
  clear h1 h2
  go_enter Tryz.func19, Tryz.ntmps19
  go_wp2_with (first | (go_at_call 44; refine (wrap_b _ _).mono ?_; rintro _ _ ⟨rfl, B⟩; replace BB := bon BB B; clear B) | (go_at_call 56; refine (CI.out _).mono ?_; rintro _ _ ⟨rfl, B⟩; replace BB := bon BB B; clear B))
  all_goals
    go_ret
    refine ⟨ret_i64' ?_, BB⟩
    unfold biv
    first | (simp; done) | (simp; omega) | rfl

set_option maxRecDepth 100000 in
theorem bi12_b (a b : Int) (w : World) : Calls Tryz.prog 19 #[.int .i64 12, .int .i64 a, .int .i64 b] w fun e w' => e = .returned (.int .i64 (biv 12 a b)) ∧ Below w.heap.size w w' := by
  have BB : Below w.heap.size w w := Below.refl _ _
  have h1 := wrapv_rng a
  have h2 := wrapv_rng b
  have CI := Lib.hid (fun W => computeInts_b 12 (wrapv a) (wrapv b) W (by omega) h1.1 h1.2 h2.1 h2.2)
  clear h1 h2
  go_enter Tryz.func19, Tryz.ntmps19
  go_wp2_with (first | (go_at_call 44; refine (wrap_b _ _).mono ?_; rintro _ _ ⟨rfl, B⟩; replace BB := bon BB B; clear B) | (go_at_call 56; refine (CI.out _).mono ?_; rintro _ _ ⟨rfl, B⟩; replace BB := bon BB B; clear B))
  all_goals
    go_ret
    refine ⟨ret_i64' ?_, BB⟩
    unfold biv
    first | (simp; done) | (simp; omega) | rfl

set_option maxRecDepth 100000 in
theorem bi13_b (a b : Int) (w : World) : Calls Tryz.prog 19 #[.int .i64 13, .int .i64 a, .int .i64 b] w fun e w' => e = .returned (.int .i64 (biv 13 a b)) ∧ Below w.heap.size w w' := by
  have BB : Below w.heap.size w w := Below.refl _ _
  have h1 := wrapv_rng a
  have h2 := wrapv_rng b
  have CI := Lib.hid (fun W => computeInts_b 13 (wrapv a) (wrapv b) W (by omega) h1.1 h1.2 h2.1 h2.2)
  clear h1 h2
  go_enter Tryz.func19, Tryz.ntmps19
  go_wp2_with (first | (go_at_call 44; refine (wrap_b _ _).mono ?_; rintro _ _ ⟨rfl, B⟩; replace BB := bon BB B; clear B) | (go_at_call 56; refine (CI.out _).mono ?_; rintro _ _ ⟨rfl, B⟩; replace BB := bon BB B; clear B))
  all_goals
    go_ret
    refine ⟨ret_i64' ?_, BB⟩
    unfold biv
    first | (simp; done) | (simp; omega) | rfl

set_option maxRecDepth 100000 in
theorem bi14_b (a b : Int) (w : World) : Calls Tryz.prog 19 #[.int .i64 14, .int .i64 a, .int .i64 b] w fun e w' => e = .returned (.int .i64 (biv 14 a b)) ∧ Below w.heap.size w w' := by
  have BB : Below w.heap.size w w := Below.refl _ _
  have h1 := wrapv_rng a
  have h2 := wrapv_rng b
  have CI := Lib.hid (fun W => computeInts_b 14 (wrapv a) (wrapv b) W (by omega) h1.1 h1.2 h2.1 h2.2)
  clear h1 h2
  go_enter Tryz.func19, Tryz.ntmps19
  go_wp2_with (first | (go_at_call 44; refine (wrap_b _ _).mono ?_; rintro _ _ ⟨rfl, B⟩; replace BB := bon BB B; clear B) | (go_at_call 56; refine (CI.out _).mono ?_; rintro _ _ ⟨rfl, B⟩; replace BB := bon BB B; clear B))
  all_goals
    go_ret
    refine ⟨ret_i64' ?_, BB⟩
    unfold biv
    first | (simp; done) | (simp; omega) | rfl

set_option maxRecDepth 100000 in
theorem bi15_b (a b : Int) (w : World) : Calls Tryz.prog 19 #[.int .i64 15, .int .i64 a, .int .i64 b] w fun e w' => e = .returned (.int .i64 (biv 15 a b)) ∧ Below w.heap.size w w' := by
  have BB : Below w.heap.size w w := Below.refl _ _
  have h1 := wrapv_rng a
  have h2 := wrapv_rng b
  have CI := Lib.hid (fun W => computeInts_b 15 (wrapv a) (wrapv b) W (by omega) h1.1 h1.2 h2.1 h2.2)
  clear h1 h2
  go_enter Tryz.func19, Tryz.ntmps19
  go_wp2_with (first | (go_at_call 44; refine (wrap_b _ _).mono ?_; rintro _ _ ⟨rfl, B⟩; replace BB := bon BB B; clear B) | (go_at_call 56; refine (CI.out _).mono ?_; rintro _ _ ⟨rfl, B⟩; replace BB := bon BB B; clear B))
  all_goals
    go_ret
    refine ⟨ret_i64' ?_, BB⟩
    unfold biv
    first | (simp; done) | (simp; omega) | rfl

set_option maxRecDepth 100000 in
theorem bi16_b (a b : Int) (w : World) : Calls Tryz.prog 19 #[.int .i64 16, .int .i64 a, .int .i64 b] w fun e w' => e = .returned (.int .i64 (biv 16 a b)) ∧ Below w.heap.size w w' := by
  have BB : Below w.heap.size w w := Below.refl _ _
  have h1 := wrapv_rng a
  have h2 := wrapv_rng b
  have CI := Lib.hid (fun W => computeInts_b 16 (wrapv a) (wrapv b) W (by omega) h1.1 h1.2 h2.1 h2.2)
  clear h1 h2
  go_enter Tryz.func19, Tryz.ntmps19
  go_wp2_with (first | (go_at_call 44; refine (wrap_b _ _).mono ?_; rintro _ _ ⟨rfl, B⟩; replace BB := bon BB B; clear B) | (go_at_call 56; refine (CI.out _).mono ?_; rintro _ _ ⟨rfl, B⟩; replace BB := bon BB B; clear B))
  all_goals
    go_ret
    refine ⟨ret_i64' ?_, BB⟩
    unfold biv
    first | (simp; done) | (simp; omega) | rfl

set_option maxRecDepth 100000 in
theorem bi17_b (a b : Int) (w : World) : Calls Tryz.prog 19 #[.int .i64 17, .int .i64 a, .int .i64 b] w fun e w' => e = .returned (.int .i64 (biv 17 a b)) ∧ Below w.heap.size w w' := by
  have BB : Below w.heap.size w w := Below.refl _ _
  go_enter Tryz.func19, Tryz.ntmps19
  go_wp2_with (first | (go_at_call 46; refine (truth_q _ _).mono ?_; rintro _ _ ⟨rfl, rfl⟩))
  all_goals
    go_ret
    refine ⟨ret_i64' ?_, BB⟩
    unfold biv
    first | (simp; done) | (simp; omega) | rfl

set_option maxRecDepth 100000 in
theorem bi18_b (a b : Int) (w : World) : Calls Tryz.prog 19 #[.int .i64 18, .int .i64 a, .int .i64 b] w fun e w' => e = .returned (.int .i64 (biv 18 a b)) ∧ Below w.heap.size w w' := by
  have BB : Below w.heap.size w w := Below.refl _ _
  go_enter Tryz.func19, Tryz.ntmps19
  go_wp2_with (first | (go_at_call 46; refine (truth_q _ _).mono ?_; rintro _ _ ⟨rfl, rfl⟩))
  all_goals
    go_ret
    refine ⟨ret_i64' ?_, BB⟩
    unfold biv
    first | (simp; done) | (simp; omega) | rfl

set_option maxRecDepth 100000 in
theorem bi19_b (a b : Int) (w : World) : Calls Tryz.prog 19 #[.int .i64 19, .int .i64 a, .int .i64 b] w fun e w' => e = .returned (.int .i64 (biv 19 a b)) ∧ Below w.heap.size w w' := by
  have BB : Below w.heap.size w w := Below.refl _ _
  go_enter Tryz.func19, Tryz.ntmps19
  go_wp2_with (first | (go_at_call 46; refine (truth_q _ _).mono ?_; rintro _ _ ⟨rfl, rfl⟩))
  all_goals
    go_ret
    refine ⟨ret_i64' ?_, BB⟩
    unfold biv
    first | (simp; done) | (simp; omega) | rfl

set_option maxRecDepth 100000 in
theorem bi20_b (a b : Int) (w : World) : Calls Tryz.prog 19 #[.int .i64 20, .int .i64 a, .int .i64 b] w fun e w' => e = .returned (.int .i64 (biv 20 a b)) ∧ Below w.heap.size w w' := by
  have BB : Below w.heap.size w w := Below.refl _ _
  go_enter Tryz.func19, Tryz.ntmps19
  go_wp2_with (first | (go_at_call 46; refine (truth_q _ _).mono ?_; rintro _ _ ⟨rfl, rfl⟩))
  all_goals
    go_ret
    refine ⟨ret_i64' ?_, BB⟩
    unfold biv
    first | (simp; done) | (simp; omega) | rfl

set_option maxRecDepth 100000 in
theorem bi21_b (a b : Int) (w : World) : Calls Tryz.prog 19 #[.int .i64 21, .int .i64 a, .int .i64 b] w fun e w' => e = .returned (.int .i64 (biv 21 a b)) ∧ Below w.heap.size w w' := by
  have BB : Below w.heap.size w w := Below.refl _ _
  go_enter Tryz.func19, Tryz.ntmps19
  go_wp2
  all_goals
    go_ret
    refine ⟨ret_i64' ?_, BB⟩
    unfold biv
    first | (simp; done) | (simp; omega) | rfl

set_option maxRecDepth 100000 in
theorem bi22_b (a b : Int) (w : World) : Calls Tryz.prog 19 #[.int .i64 22, .int .i64 a, .int .i64 b] w fun e w' => e = .returned (.int .i64 (biv 22 a b)) ∧ Below w.heap.size w w' := by
  have BB : Below w.heap.size w w := Below.refl _ _
  go_enter Tryz.func19, Tryz.ntmps19
  go_wp2
  all_goals
    go_ret
    refine ⟨ret_i64' ?_, BB⟩
    unfold biv
    first | (simp; done) | (simp; omega) | rfl

theorem computeBinary_b (o a b : Int) (w : World) (ho : 3 ≤ o ∧ o ≤ 22) :
    Calls Tryz.prog 19 #[.int .i64 o, .int .i64 a, .int .i64 b] w fun e w' => e = .returned (.int .i64 (biv o a b)) ∧ Below w.heap.size w w' := by
  rcases (show o = 3 ∨ o = 4 ∨ o = 5 ∨ o = 6 ∨ o = 7 ∨ o = 8 ∨ o = 9 ∨ o = 10 ∨ o = 11 ∨ o = 12 ∨ o = 13 ∨ o = 14 ∨ o = 15 ∨ o = 16 ∨ o = 17 ∨ o = 18 ∨ o = 19 ∨ o = 20 ∨ o = 21 ∨ o = 22 by omega) with rfl | rfl | rfl | rfl | rfl | rfl | rfl | rfl | rfl | rfl | rfl | rfl | rfl | rfl | rfl | rfl | rfl | rfl | rfl | rfl
  · exact bi3_b a b w
  · exact bi4_b a b w
  · exact bi5_b a b w
  · exact bi6_b a b w
  · exact bi7_b a b w
  · exact bi8_b a b w
  · exact bi9_b a b w
  · exact bi10_b a b w
  · exact bi11_b a b w
  · exact bi12_b a b w
  · exact bi13_b a b w
  · exact bi14_b a b w
  · exact bi15_b a b w
  · exact bi16_b a b w
  · exact bi17_b a b w
  · exact bi18_b a b w
  · exact bi19_b a b w
  · exact bi20_b a b w
  · exact bi21_b a b w
  · exact bi22_b a b w

set_option maxRecDepth 100000 in
theorem comp0_b (o a b c i : Int) (w : World) (h : cl o = 0) :
    Calls Tryz.prog 7 #[.int .i64 o, .int .i64 a, .int .i64 b, .int .i64 c, .int .i64 i] w fun e w' => e = .returned (.int .i64 (0)) ∧ Below w.heap.size w w' := by
  have BB : Below w.heap.size w w := Below.refl _ _
  have c1 := fun W => classOf_q o W
  rw [h] at c1
  have C := Lib.hid c1
  clear c1 h
  go_enter Tryz.func7, Tryz.ntmps7
  go_wp2_with (first | (go_at_call 17; (with_reducible refine (C.out _).mono ?_); rintro _ _ ⟨rfl, rfl⟩))
  all_goals
    go_ret
    refine ⟨ret_i64' ?_, BB⟩
    first | rfl | (simp_all; done)

set_option maxRecDepth 100000 in
theorem comp1_b (o a b c i : Int) (w : World) (h : cl o = 1) :
    Calls Tryz.prog 7 #[.int .i64 o, .int .i64 a, .int .i64 b, .int .i64 c, .int .i64 i] w fun e w' => e = .returned (.int .i64 (i)) ∧ Below w.heap.size w w' := by
  have BB : Below w.heap.size w w := Below.refl _ _
  have c1 := fun W => classOf_q o W
  rw [h] at c1
  have C := Lib.hid c1
  clear c1 h
  go_enter Tryz.func7, Tryz.ntmps7
  go_wp2_with (first | (go_at_call 17; (with_reducible refine (C.out _).mono ?_); rintro _ _ ⟨rfl, rfl⟩))
  all_goals
    go_ret
    refine ⟨ret_i64' ?_, BB⟩
    first | rfl | (simp_all; done)

set_option maxRecDepth 100000 in
theorem comp2_b (o a b c i : Int) (w : World) (h : cl o = 2) :
    Calls Tryz.prog 7 #[.int .i64 o, .int .i64 a, .int .i64 b, .int .i64 c, .int .i64 i] w fun e w' => e = .returned (.int .i64 (unv o a)) ∧ Below w.heap.size w w' := by
  have BB : Below w.heap.size w w := Below.refl _ _
  have c1 := fun W => classOf_q o W
  rw [h] at c1
  have C := Lib.hid c1
  have CU := Lib.hid (fun W => computeUnary_b o a W (cl_un' h))
  clear c1 h
  go_enter Tryz.func7, Tryz.ntmps7
  go_wp2_with (first | (go_at_call 17; (with_reducible refine (C.out _).mono ?_); rintro _ _ ⟨rfl, rfl⟩) | (go_at_call 18; refine (CU.out _).mono ?_; rintro _ _ ⟨rfl, B⟩; replace BB := bon BB B; clear B))
  all_goals
    go_ret
    refine ⟨ret_i64' ?_, BB⟩
    first | rfl | (simp_all; done)

set_option maxRecDepth 100000 in
theorem comp3_b (o a b c i : Int) (w : World) (h : cl o = 3) :
    Calls Tryz.prog 7 #[.int .i64 o, .int .i64 a, .int .i64 b, .int .i64 c, .int .i64 i] w fun e w' => e = .returned (.int .i64 (biv o a b)) ∧ Below w.heap.size w w' := by
  have BB : Below w.heap.size w w := Below.refl _ _
  have c1 := fun W => classOf_q o W
  rw [h] at c1
  have C := Lib.hid c1
  have CU := Lib.hid (fun W => computeBinary_b o a b W (cl_bi' h))
  clear c1 h
  go_enter Tryz.func7, Tryz.ntmps7
  go_wp2_with (first | (go_at_call 17; (with_reducible refine (C.out _).mono ?_); rintro _ _ ⟨rfl, rfl⟩) | (go_at_call 19; refine (CU.out _).mono ?_; rintro _ _ ⟨rfl, B⟩; replace BB := bon BB B; clear B))
  all_goals
    go_ret
    refine ⟨ret_i64' ?_, BB⟩
    first | rfl | (simp_all; done)

set_option maxRecDepth 100000 in
theorem comp4_b (o a b c i : Int) (w : World) (h : cl o = 4) :
    Calls Tryz.prog 7 #[.int .i64 o, .int .i64 a, .int .i64 b, .int .i64 c, .int .i64 i] w fun e w' => e = .returned (.int .i64 (if a = 0 then c else b)) ∧ Below w.heap.size w w' := by
  have BB : Below w.heap.size w w := Below.refl _ _
  have c1 := fun W => classOf_q o W
  rw [h] at c1
  have C := Lib.hid c1
  clear c1 h
  go_enter Tryz.func7, Tryz.ntmps7
  go_wp2_with (first | (go_at_call 17; (with_reducible refine (C.out _).mono ?_); rintro _ _ ⟨rfl, rfl⟩))
  all_goals
    go_ret
    refine ⟨ret_i64' ?_, BB⟩
    first | rfl | (simp_all; done)

set_option maxRecDepth 100000 in
theorem comp5_b (o a b c i : Int) (w : World) (h : cl o = 5) :
    Calls Tryz.prog 7 #[.int .i64 o, .int .i64 a, .int .i64 b, .int .i64 c, .int .i64 i] w fun e w' => e = .returned (.int .i64 (0)) ∧ Below w.heap.size w w' := by
  have BB : Below w.heap.size w w := Below.refl _ _
  have c1 := fun W => classOf_q o W
  rw [h] at c1
  have C := Lib.hid c1
  clear c1 h
  go_enter Tryz.func7, Tryz.ntmps7
  go_wp2_with (first | (go_at_call 17; (with_reducible refine (C.out _).mono ?_); rintro _ _ ⟨rfl, rfl⟩))
  all_goals
    go_ret
    refine ⟨ret_i64' ?_, BB⟩
    first | rfl | (simp_all; done)

set_option maxRecDepth 100000 in
theorem comp6_b (o a b c i : Int) (w : World) (h : cl o = 6) :
    Calls Tryz.prog 7 #[.int .i64 o, .int .i64 a, .int .i64 b, .int .i64 c, .int .i64 i] w fun e w' => e = .returned (.int .i64 (0)) ∧ Below w.heap.size w w' := by
  have BB : Below w.heap.size w w := Below.refl _ _
  have c1 := fun W => classOf_q o W
  rw [h] at c1
  have C := Lib.hid c1
  clear c1 h
  go_enter Tryz.func7, Tryz.ntmps7
  go_wp2_with (first | (go_at_call 17; (with_reducible refine (C.out _).mono ?_); rintro _ _ ⟨rfl, rfl⟩))
  all_goals
    go_ret
    refine ⟨ret_i64' ?_, BB⟩
    first | rfl | (simp_all; done)

set_option maxRecDepth 100000 in
theorem comp7_b (o a b c i : Int) (w : World) (h : cl o = 7) :
    Calls Tryz.prog 7 #[.int .i64 o, .int .i64 a, .int .i64 b, .int .i64 c, .int .i64 i] w fun e w' => e = .returned (.int .i64 (0)) ∧ Below w.heap.size w w' := by
  have BB : Below w.heap.size w w := Below.refl _ _
  have c1 := fun W => classOf_q o W
  rw [h] at c1
  have C := Lib.hid c1
  clear c1 h
  go_enter Tryz.func7, Tryz.ntmps7
  go_wp2_with (first | (go_at_call 17; (with_reducible refine (C.out _).mono ?_); rintro _ _ ⟨rfl, rfl⟩))
  all_goals
    go_ret
    refine ⟨ret_i64' ?_, BB⟩
    first | rfl | (simp_all; done)

set_option maxRecDepth 100000 in
theorem comp8_b (o a b c i : Int) (w : World) (h : cl o = 8) :
    Calls Tryz.prog 7 #[.int .i64 o, .int .i64 a, .int .i64 b, .int .i64 c, .int .i64 i] w fun e w' => e = .returned (.int .i64 (0)) ∧ Below w.heap.size w w' := by
  have BB : Below w.heap.size w w := Below.refl _ _
  have c1 := fun W => classOf_q o W
  rw [h] at c1
  have C := Lib.hid c1
  clear c1 h
  go_enter Tryz.func7, Tryz.ntmps7
  go_wp2_with (first | (go_at_call 17; (with_reducible refine (C.out _).mono ?_); rintro _ _ ⟨rfl, rfl⟩))
  all_goals
    go_ret
    refine ⟨ret_i64' ?_, BB⟩
    first | rfl | (simp_all; done)

set_option maxRecDepth 100000 in
theorem comp9_b (o a b c i : Int) (w : World) (h : cl o = 9) :
    Calls Tryz.prog 7 #[.int .i64 o, .int .i64 a, .int .i64 b, .int .i64 c, .int .i64 i] w fun e w' => e = .returned (.int .i64 (0)) ∧ Below w.heap.size w w' := by
  have BB : Below w.heap.size w w := Below.refl _ _
  have c1 := fun W => classOf_q o W
  rw [h] at c1
  have C := Lib.hid c1
  clear c1 h
  go_enter Tryz.func7, Tryz.ntmps7
  go_wp2_with (first | (go_at_call 17; (with_reducible refine (C.out _).mono ?_); rintro _ _ ⟨rfl, rfl⟩))
  all_goals
    go_ret
    refine ⟨ret_i64' ?_, BB⟩
    first | rfl | (simp_all; done)

set_option maxRecDepth 100000 in
theorem comp10_b (o a b c i : Int) (w : World) (h : cl o = 10) :
    Calls Tryz.prog 7 #[.int .i64 o, .int .i64 a, .int .i64 b, .int .i64 c, .int .i64 i] w fun e w' => e = .returned (.int .i64 (0)) ∧ Below w.heap.size w w' := by
  have BB : Below w.heap.size w w := Below.refl _ _
  have c1 := fun W => classOf_q o W
  rw [h] at c1
  have C := Lib.hid c1
  clear c1 h
  go_enter Tryz.func7, Tryz.ntmps7
  go_wp2_with (first | (go_at_call 17; (with_reducible refine (C.out _).mono ?_); rintro _ _ ⟨rfl, rfl⟩))
  all_goals
    go_ret
    refine ⟨ret_i64' ?_, BB⟩
    first | rfl | (simp_all; done)

theorem compute_b (o a b c i : Int) (w : World) :
    Calls Tryz.prog 7 #[.int .i64 o, .int .i64 a, .int .i64 b, .int .i64 c, .int .i64 i] w fun e w' => e = .returned (.int .i64 (comp o a b c i)) ∧ Below w.heap.size w w' := by
  unfold comp
  rcases cl_ways o with h | h | h | h | h | h | h | h | h | h | h
  · simpa [h] using comp0_b o a b c i w h
  · simpa [h] using comp1_b o a b c i w h
  · simpa [h] using comp2_b o a b c i w h
  · simpa [h] using comp3_b o a b c i w h
  · simpa [h] using comp4_b o a b c i w h
  · simpa [h] using comp5_b o a b c i w h
  · simpa [h] using comp6_b o a b c i w h
  · simpa [h] using comp7_b o a b c i w h
  · simpa [h] using comp8_b o a b c i w h
  · simpa [h] using comp9_b o a b c i w h
  · simpa [h] using comp10_b o a b c i w h

end Go.Proofs.YtnhnbblplnhmlaaGreatDoor
