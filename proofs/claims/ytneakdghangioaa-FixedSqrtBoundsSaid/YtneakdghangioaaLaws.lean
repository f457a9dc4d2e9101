/- The walks of the laws of package fixed: each answers true, whatever the numbers; of the world no more has changed than the count of the orders that were drawn. -/
import Derived.Test.YtneakdghangioaaCalls
namespace Go.Proofs.Ytneakdghangioaa
open Go.RowKit

theorem arithmetic_walk (a b c : Int) (w0 w : World) (hw : Drew w0 w) :
    Calls Try.prog 3 #[.int .i64 a, .int .i64 b, .int .i64 c] w fun e w' => e = .returned (.bool true) ∧ Drew w0 w' := by
  go_enter Try.func3, Try.ntmps3
  go_wp2_with (first | (go_at_call 11; refine (saturate_any _ w0 _ (by assumption)).mono ?_; rintro e w1 ⟨rfl, D1⟩) | (go_at_call 12; refine (rsaturate_any _ w0 _ (by assumption)).mono ?_; rintro e w1 ⟨rfl, D1⟩) | (go_at_call 13; refine (add_any _ _ w0 _ (by assumption)).mono ?_; rintro e w1 ⟨rfl, D1⟩) | (go_at_call 14; refine (radd_any _ _ w0 _ (by assumption)).mono ?_; rintro e w1 ⟨rfl, D1⟩) | (go_at_call 15; refine (sub_any _ _ w0 _ (by assumption)).mono ?_; rintro e w1 ⟨rfl, D1⟩) | (go_at_call 16; refine (rsub_any _ _ w0 _ (by assumption)).mono ?_; rintro e w1 ⟨rfl, D1⟩) | (go_at_call 17; refine (mul_any _ _ w0 _ (by assumption)).mono ?_; rintro e w1 ⟨rfl, D1⟩) | (go_at_call 18; refine (rmul_any _ _ w0 _ (by assumption)).mono ?_; rintro e w1 ⟨rfl, D1⟩) | (go_at_call 19; refine (div_any _ _ w0 _ (by assumption)).mono ?_; rintro e w1 ⟨rfl, D1⟩) | (go_at_call 20; refine (rdiv_any _ _ w0 _ (by assumption)).mono ?_; rintro e w1 ⟨rfl, D1⟩) | (go_at_call 21; refine (clamp_any _ _ _ w0 _ (by assumption)).mono ?_; rintro e w1 ⟨rfl, D1⟩) | (go_at_call 22; refine (rclamp_any _ _ _ w0 _ (by assumption)).mono ?_; rintro e w1 ⟨rfl, D1⟩) | (go_at_call 23; refine (wrap_any _ w0 _ (by assumption)).mono ?_; rintro e w1 ⟨rfl, D1⟩) | (go_at_call 24; refine (rwrap_any _ w0 _ (by assumption)).mono ?_; rintro e w1 ⟨rfl, D1⟩) | (go_at_call 25; refine (floor_any _ w0 _ (by assumption)).mono ?_; rintro e w1 ⟨rfl, D1⟩) | (go_at_call 26; refine (rfloor_any _ w0 _ (by assumption)).mono ?_; rintro e w1 ⟨rfl, D1⟩) | (go_at_call 27; refine (fract_any _ w0 _ (by assumption)).mono ?_; rintro e w1 ⟨rfl, D1⟩) | (go_at_call 28; refine (rfract_any _ w0 _ (by assumption)).mono ?_; rintro e w1 ⟨rfl, D1⟩) | (go_at_call 29; refine (sqrt_any _ w0 _ (by assumption)).mono ?_; rintro e w1 ⟨rfl, D1⟩) | (go_at_call 30; refine (rsqrt_any _ w0 _ (by assumption)).mono ?_; rintro e w1 ⟨rfl, D1⟩) | (go_at_call 31; refine (lerp_any _ _ _ w0 _ (by assumption)).mono ?_; rintro e w1 ⟨rfl, D1⟩) | (go_at_call 32; refine (rlerp_any _ _ _ w0 _ (by assumption)).mono ?_; rintro e w1 ⟨rfl, D1⟩) | (go_at_call 33; refine (example_any  w0 _ (by assumption)).mono ?_; rintro e w1 ⟨rfl, D1⟩))
  all_goals go_ret
  all_goals exact ⟨rfl, by assumption⟩

theorem quotients_walk (n d : Int) (w0 w : World) (hw : Drew w0 w) :
    Calls Try.prog 4 #[.int .i64 n, .int .i64 d] w fun e w' => e = .returned (.bool true) ∧ Drew w0 w' := by
  go_enter Try.func4, Try.ntmps4
  go_wp2_with (first | (go_at_call 34; refine (rounddiv_any _ _ w0 _ (by assumption)).mono ?_; rintro e w1 ⟨rfl, D1⟩) | (go_at_call 35; refine (rrounddiv_any _ _ w0 _ (by assumption)).mono ?_; rintro e w1 ⟨rfl, D1⟩) | (go_at_call 36; refine (ratio_any _ _ w0 _ (by assumption)).mono ?_; rintro e w1 ⟨rfl, D1⟩) | (go_at_call 37; refine (rratio_any _ _ w0 _ (by assumption)).mono ?_; rintro e w1 ⟨rfl, D1⟩) | (go_at_call 33; refine (example_any  w0 _ (by assumption)).mono ?_; rintro e w1 ⟨rfl, D1⟩))
  all_goals go_ret
  all_goals exact ⟨rfl, by assumption⟩

theorem error_walk (n d : Int) (w0 w : World) (hw : Drew w0 w) :
    Calls Try.prog 5 #[.int .i64 n, .int .i64 d] w fun e w' => e = .returned (.bool true) ∧ Drew w0 w' := by
  by_cases h : 1 ≤ d ∧ d ≤ 4611686018427387904 ∧ -4611686018427387904 ≤ n ∧ n ≤ 4611686018427387904
  · obtain ⟨h1, h2, h3, h4⟩ := h
    obtain ⟨⟨b1, b2⟩, b3, b4⟩ := quo_rem_bd n d h1 4611686018427387904 h3 h4
    have HQ : Hid (rda n d = rdv n d) := Lib.hid (rda_in n d h1 h2 h3 h4)
    obtain ⟨q1, q2⟩ : n.tdiv d - 1 ≤ rda n d ∧ rda n d ≤ n.tdiv d + 1 := by
      rw [HQ.out, rdv_t n d h1]; split
      · omega
      · split <;> omega
    rcases Int.lt_trichotomy n 0 with hs | hs | hs
    · obtain ⟨p1, p2⟩ : 2 * n - d ≤ 2 * (rda n d * d) ∧ 2 * (rda n d * d) < 2 * n + d := by
        have := rdv_near' n d h1 (by omega); rw [HQ.out]; omega
      go_enter Try.func5, Try.ntmps5
      go_wp2_with (first | (go_at_call 34; refine (rounddiv_any _ _ w0 _ (by assumption)).mono ?_; rintro e w1 ⟨rfl, D1⟩) | (go_at_call 33; refine (example_any  w0 _ (by assumption)).mono ?_; rintro e w1 ⟨rfl, D1⟩))
      go_quiet (fail)
      have D2 := Drew.more D1 nq
      go_wp2_with (first | (go_at_call 34; refine (rounddiv_any _ _ w0 _ (by assumption)).mono ?_; rintro e w1 ⟨rfl, D1⟩) | (go_at_call 33; refine (example_any  w0 _ (by assumption)).mono ?_; rintro e w1 ⟨rfl, D1⟩))
      all_goals first | (go_ret; exact ⟨rfl, by assumption⟩) | (exfalso; simp only [beq_iff_eq] at *; omega)
    · subst hs
      have hq : rda 0 d = 0 := by rw [HQ.out]; exact rdv_zero d h1
      clear HQ
      go_enter Try.func5, Try.ntmps5
      go_wp2_with (first | (go_at_call 34; refine (rounddiv_any _ _ w0 _ (by assumption)).mono ?_; rintro e w1 ⟨rfl, D1⟩) | (go_at_call 33; refine (example_any  w0 _ (by assumption)).mono ?_; rintro e w1 ⟨rfl, D1⟩))
      go_quiet (fail)
      have D2 := Drew.more D1 nq
      go_wp2_with (first | (go_at_call 34; refine (rounddiv_any _ _ w0 _ (by assumption)).mono ?_; rintro e w1 ⟨rfl, D1⟩) | (go_at_call 33; refine (example_any  w0 _ (by assumption)).mono ?_; rintro e w1 ⟨rfl, D1⟩))
      all_goals first | (go_ret; exact ⟨rfl, by assumption⟩) | (exfalso; simp only [beq_iff_eq] at *; omega)
    · obtain ⟨p1, p2⟩ : 2 * n - d < 2 * (rda n d * d) ∧ 2 * (rda n d * d) ≤ 2 * n + d := by
        have := rdv_near n d h1 (by omega); rw [HQ.out]; omega
      go_enter Try.func5, Try.ntmps5
      go_wp2_with (first | (go_at_call 34; refine (rounddiv_any _ _ w0 _ (by assumption)).mono ?_; rintro e w1 ⟨rfl, D1⟩) | (go_at_call 33; refine (example_any  w0 _ (by assumption)).mono ?_; rintro e w1 ⟨rfl, D1⟩))
      go_quiet (fail)
      have D2 := Drew.more D1 nq
      go_wp2_with (first | (go_at_call 34; refine (rounddiv_any _ _ w0 _ (by assumption)).mono ?_; rintro e w1 ⟨rfl, D1⟩) | (go_at_call 33; refine (example_any  w0 _ (by assumption)).mono ?_; rintro e w1 ⟨rfl, D1⟩))
      all_goals first | (go_ret; exact ⟨rfl, by assumption⟩) | (exfalso; simp only [beq_iff_eq] at *; omega)
  · have ho := rda_out n d (by omega)
    have h1 : (rda n d == 0) = true := by rw [ho]; rfl
    clear ho
    go_enter Try.func5, Try.ntmps5
    go_wp2_with (first | (go_at_call 34; refine (rounddiv_any _ _ w0 _ (by assumption)).mono ?_; rintro e w1 ⟨rfl, D1⟩) | (go_at_call 33; refine (example_any  w0 _ (by assumption)).mono ?_; rintro e w1 ⟨rfl, D1⟩))
    all_goals first | (go_ret; exact ⟨rfl, by assumption⟩) | omega
theorem split_walk (x : Int) (w0 w : World) (hw : Drew w0 w) :
    Calls Try.prog 6 #[.int .i64 x] w fun e w' => e = .returned (.bool true) ∧ Drew w0 w' := by
  have ba := sat_bd x
  have bf := fractv_bd x
  by_cases h : sat x - fractv x < -536870911
  · obtain ⟨e1, e2⟩ := floorv_low x h
    have t1 : (floorv x == -536870911) = true := by rw [e1]; rfl
    have t2 : (sat x - fractv x == -536870912) = true := by rw [e2]; rfl
    have t3 : floorv x ≤ sat x ∧ -536870911 ≤ floorv x := by omega
    clear e1 e2
    go_enter Try.func6, Try.ntmps6
    go_wp2_with (first | (go_at_call 38; refine (limited_any _ w0 _ (by assumption)).mono ?_; rintro e w1 ⟨rfl, D1⟩) | (go_at_call 25; refine (floor_any _ w0 _ (by assumption)).mono ?_; rintro e w1 ⟨rfl, D1⟩) | (go_at_call 27; refine (fract_any _ w0 _ (by assumption)).mono ?_; rintro e w1 ⟨rfl, D1⟩) | (go_at_call 33; refine (example_any  w0 _ (by assumption)).mono ?_; rintro e w1 ⟨rfl, D1⟩))
    all_goals first | (go_ret; exact ⟨rfl, by assumption⟩) | (exfalso; simp only [beq_iff_eq] at *; omega)
  · obtain ⟨e1, e2, e3, e4, e5, e6⟩ := floorv_facts x h
    have t1 : ((floorv x).tmod 65536 == 0) = true := by rw [e1]; rfl
    have t2 : (floorv x + fractv x == sat x) = true := by rw [e2]; simp
    have t3 : (floorv (floorv x) == floorv x) = true := by rw [e3]; simp
    have t4 : (fractv (floorv x) == 0) = true := by rw [e4]; rfl
    clear e1 e2 e3 e4
    go_enter Try.func6, Try.ntmps6
    go_wp2_with (first | (go_at_call 38; refine (limited_any _ w0 _ (by assumption)).mono ?_; rintro e w1 ⟨rfl, D1⟩) | (go_at_call 25; refine (floor_any _ w0 _ (by assumption)).mono ?_; rintro e w1 ⟨rfl, D1⟩) | (go_at_call 27; refine (fract_any _ w0 _ (by assumption)).mono ?_; rintro e w1 ⟨rfl, D1⟩) | (go_at_call 33; refine (example_any  w0 _ (by assumption)).mono ?_; rintro e w1 ⟨rfl, D1⟩))
    all_goals first | (go_ret; exact ⟨rfl, by assumption⟩) | (exfalso; simp only [beq_iff_eq] at *; omega)
set_option maxRecDepth 100000 in
theorem root_walk (x y : Int) (w0 w : World) (hw : Drew w0 w) :
    Calls Try.prog 7 #[.int .i64 x, .int .i64 y] w fun e w' => e = .returned (.bool true) ∧ Drew w0 w' := by
  have ba := sat_bd x
  obtain ⟨r0, r1⟩ := sqrtv_bd x
  have hm := sqrtv_mono x y
  have h4 : (sqrtv 262144 == 131072) = true := by decide +kernel
  by_cases hp : 0 < sat x
  · obtain ⟨p1, p2⟩ := sqrtv_pos x hp
    have s0 := Int.mul_nonneg r0 r0
    have s2 : (sqrtv x + 1) * (sqrtv x + 1) ≤ sat x * 65536 + 16777217 := by
      have e : (sqrtv x + 1) * (sqrtv x + 1) = sqrtv x * sqrtv x + 2 * sqrtv x + 1 := by grind
      omega
    by_cases hxy : y < x
    · clear hm
      go_enter Try.func7, Try.ntmps7
      go_wp2_with (first | (go_at_call 38; refine (limited_any _ w0 _ (by assumption)).mono ?_; rintro e w1 ⟨rfl, D1⟩) | (go_at_call 29; refine (sqrt_any _ w0 _ (by assumption)).mono ?_; rintro e w1 ⟨rfl, D1⟩) | (go_at_call 33; refine (example_any  w0 _ (by assumption)).mono ?_; rintro e w1 ⟨rfl, D1⟩))
      all_goals first | (go_ret; exact ⟨rfl, by assumption⟩) | (exfalso; simp only [beq_iff_eq] at *; omega)
    · have hm2 := hm (by omega)
      clear hm
      go_enter Try.func7, Try.ntmps7
      go_wp2_with (first | (go_at_call 38; refine (limited_any _ w0 _ (by assumption)).mono ?_; rintro e w1 ⟨rfl, D1⟩) | (go_at_call 29; refine (sqrt_any _ w0 _ (by assumption)).mono ?_; rintro e w1 ⟨rfl, D1⟩) | (go_at_call 33; refine (example_any  w0 _ (by assumption)).mono ?_; rintro e w1 ⟨rfl, D1⟩))
      all_goals first | (go_ret; exact ⟨rfl, by assumption⟩) | (exfalso; simp only [beq_iff_eq] at *; omega)
  · have hz := sqrtv_zero x (by omega)
    clear r0 r1
    by_cases hxy : y < x
    · clear hm
      go_enter Try.func7, Try.ntmps7
      go_wp2_with (first | (go_at_call 38; refine (limited_any _ w0 _ (by assumption)).mono ?_; rintro e w1 ⟨rfl, D1⟩) | (go_at_call 29; refine (sqrt_any _ w0 _ (by assumption)).mono ?_; rintro e w1 ⟨rfl, D1⟩) | (go_at_call 33; refine (example_any  w0 _ (by assumption)).mono ?_; rintro e w1 ⟨rfl, D1⟩))
      all_goals first | (go_ret; exact ⟨rfl, by assumption⟩) | (exfalso; simp only [beq_iff_eq] at *; omega)
    · have hm2 := hm (by omega)
      rw [hz] at hm2
      clear hm
      go_enter Try.func7, Try.ntmps7
      go_wp2_with (first | (go_at_call 38; refine (limited_any _ w0 _ (by assumption)).mono ?_; rintro e w1 ⟨rfl, D1⟩) | (go_at_call 29; refine (sqrt_any _ w0 _ (by assumption)).mono ?_; rintro e w1 ⟨rfl, D1⟩) | (go_at_call 33; refine (example_any  w0 _ (by assumption)).mono ?_; rintro e w1 ⟨rfl, D1⟩))
      all_goals first | (go_ret; exact ⟨rfl, by assumption⟩) | (exfalso; simp only [beq_iff_eq] at *; omega)
theorem identities_walk (a b : Int) (w0 w : World) (hw : Drew w0 w) :
    Calls Try.prog 9 #[.int .i64 a, .int .i64 b] w fun e w' => e = .returned (.bool true) ∧ Drew w0 w' := by
  have ba := sat_bd a
  have b1 := subv_bd b a
  have b2 := mulv_bd (sat a) b
  have b3 := divv_bd (sat a) b
  have f1 : (addv a b == addv b a) = true := by rw [addv_comm a b]; simp
  have f1' : (addv a b != addv b a) = false := by rw [addv_comm a b]; simp
  have f2 : (mulv a b == mulv b a) = true := by rw [mulv_comm a b]; simp
  have f2' : (mulv a b != mulv b a) = false := by rw [mulv_comm a b]; simp
  have f3 : (subv a b == -subv b a) = true := by rw [subv_anti a b]; simp
  have f3' : (subv a b != -subv b a) = false := by rw [subv_anti a b]; simp
  have f4 : (addv a 0 == sat a) = true := by rw [addv_zero a]; simp
  have f4' : (addv a 0 != sat a) = false := by rw [addv_zero a]; simp
  have f5 : (subv a a == 0) = true := by rw [subv_self a]; simp
  have f5' : (subv a a != 0) = false := by rw [subv_self a]; simp
  have f6 : (mulv a 65536 == sat a) = true := by rw [mulv_one a]; simp
  have f6' : (mulv a 65536 != sat a) = false := by rw [mulv_one a]; simp
  have f7 : (divv a 65536 == sat a) = true := by rw [divv_one a]; simp
  have f7' : (divv a 65536 != sat a) = false := by rw [divv_one a]; simp
  have f8 : (mulv a (-65536) == -sat a) = true := by rw [mulv_negone a]; simp
  have f8' : (mulv a (-65536) != -sat a) = false := by rw [mulv_negone a]; simp
  have f9 : (mulv a 0 == 0) = true := by rw [mulv_zero a]; simp
  have f9' : (mulv a 0 != 0) = false := by rw [mulv_zero a]; simp
  have fa : (mulv (-sat a) b == -mulv (sat a) b) = true := by rw [mulv_neg (sat a) b]; simp
  have fa' : (mulv (-sat a) b != -mulv (sat a) b) = false := by rw [mulv_neg (sat a) b]; simp
  have fb : (divv (-sat a) b == -divv (sat a) b) = true := by rw [divv_neg (sat a) b]; simp
  have fb' : (divv (-sat a) b != -divv (sat a) b) = false := by rw [divv_neg (sat a) b]; simp
  go_enter Try.func9, Try.ntmps9
  go_wp2_with (first | (go_at_call 38; refine (limited_any _ w0 _ (by assumption)).mono ?_; rintro e w1 ⟨rfl, D1⟩) | (go_at_call 13; refine (add_any _ _ w0 _ (by assumption)).mono ?_; rintro e w1 ⟨rfl, D1⟩) | (go_at_call 15; refine (sub_any _ _ w0 _ (by assumption)).mono ?_; rintro e w1 ⟨rfl, D1⟩) | (go_at_call 17; refine (mul_any _ _ w0 _ (by assumption)).mono ?_; rintro e w1 ⟨rfl, D1⟩) | (go_at_call 19; refine (div_any _ _ w0 _ (by assumption)).mono ?_; rintro e w1 ⟨rfl, D1⟩) | (go_at_call 33; refine (example_any  w0 _ (by assumption)).mono ?_; rintro e w1 ⟨rfl, D1⟩))
  all_goals first | (go_ret; exact ⟨rfl, by assumption⟩) | (exfalso; simp only [beq_iff_eq] at *; omega)

end Go.Proofs.Ytneakdghangioaa
