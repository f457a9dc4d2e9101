/- What each call of package fixed, and of its reference, returns: a number of the plain arithmetic; of the world no more has changed than the count of the orders that were drawn. -/
import Derived.Test.YtainijafljpiaaaRows
import Derived.Test.YtainijafljpiaaaMath
import Derived.WalkKit
import Derived.WalkSpells
import Derived.WalkLawsBesides
import Derived.RowKit3
import Derived.Lib.Hide
import Derived.Deep.QuietTactic
import Derived.BigQuiet
namespace Go.Proofs.Ytainijafljpiaaa
set_option linter.unusedSimpArgs false
open Go.RowKit

/-- No more has happened in between than that orders were drawn. -/
def Drew (w w' : World) : Prop := ∃ m, w' = w.drewN m

theorem Drew.refl (w : World) : Drew w w := ⟨0, rfl⟩

theorem Drew.more {w w' : World} (h : Drew w w') (n : Nat) : Drew w (w'.drewN n) := by
  obtain ⟨m, rfl⟩ := h; exact ⟨m + n, World.drewN_drewN _ _ _⟩

theorem Drew.grown {w w' : World} (h : Drew w w') : Grown w w' := by
  obtain ⟨m, rfl⟩ := h; exact Grown.refl w

theorem ret_int {k : IntKind} {a b : Int} (h : a = b) : Ending.returned (.int k a) = .returned (.int k b) := by rw [h]

theorem ret_bool {a b : Bool} (h : a = b) : Ending.returned (.bool a) = .returned (.bool b) := by rw [h]

theorem and_low (n : Int) : bits .and .i64 n 65535 = n % 65536 := by
  have hm : (BitVec.ofInt 64 65535).toNat = 2 ^ 16 - 1 := by decide
  have key : (BitVec.ofInt 64 n &&& BitVec.ofInt 64 65535).toNat = (n % ((2 ^ 64 : Nat) : Int)).toNat % 2 ^ 16 := by
    rw [BitVec.toNat_and, BitVec.toNat_ofInt, hm, Nat.and_two_pow_sub_one_eq_mod]
  show IntKind.i64.wrap ((BitVec.ofInt 64 n &&& BitVec.ofInt 64 65535).toNat : Nat) = n % 65536
  rw [key, IntKind.wrap_i64]
  omega

theorem clamp_any (x lo hi : Int) (w0 w : World) (hw : Drew w0 w) :
    Calls Try.prog 54 #[.int .i64 x, .int .i64 lo, .int .i64 hi] w fun e w' => e = .returned (.int .i64 (clampv x lo hi)) ∧ Drew w0 w' := by
  go_enter Try.func54, Try.ntmps54
  go_wp2
  all_goals go_ret
  all_goals exact ⟨ret_int (by unfold clampv; grind), by assumption⟩

theorem rclamp_any (x lo hi : Int) (w0 w : World) (hw : Drew w0 w) :
    Calls Try.prog 49 #[.int .i64 x, .int .i64 lo, .int .i64 hi] w fun e w' => e = .returned (.int .i64 (clampv x lo hi)) ∧ Drew w0 w' := by
  go_enter Try.func49, Try.ntmps49
  go_wp2
  all_goals go_ret
  all_goals exact ⟨ret_int (by unfold clampv; grind), by assumption⟩

theorem saturate_any (x : Int) (w0 w : World) (hw : Drew w0 w) :
    Calls Try.prog 34 #[.int .i64 x] w fun e w' => e = .returned (.int .i64 (sat x)) ∧ Drew w0 w' := by
  go_enter Try.func34, Try.ntmps34
  go_wp2_with (go_at_call 54; refine (clamp_any _ _ _ w0 _ (by assumption)).mono ?_; rintro e w1 ⟨rfl, D1⟩)
  all_goals go_ret
  all_goals exact ⟨ret_int (clamp_sat x), by assumption⟩

theorem add_any (a b : Int) (w0 w : World) (hw : Drew w0 w) :
    Calls Try.prog 31 #[.int .i64 a, .int .i64 b] w fun e w' => e = .returned (.int .i64 (addv a b)) ∧ Drew w0 w' := by
  have ba := sat_bd a
  have bb := sat_bd b
  go_enter Try.func31, Try.ntmps31
  go_wp2_with (go_at_call 34; refine (saturate_any _ w0 _ (by assumption)).mono ?_; rintro e w1 ⟨rfl, D1⟩)
  all_goals go_ret
  all_goals exact ⟨ret_int rfl, by assumption⟩

theorem sub_any (a b : Int) (w0 w : World) (hw : Drew w0 w) :
    Calls Try.prog 33 #[.int .i64 a, .int .i64 b] w fun e w' => e = .returned (.int .i64 (subv a b)) ∧ Drew w0 w' := by
  have ba := sat_bd a
  have bb := sat_bd b
  go_enter Try.func33, Try.ntmps33
  go_wp2_with (go_at_call 34; refine (saturate_any _ w0 _ (by assumption)).mono ?_; rintro e w1 ⟨rfl, D1⟩)
  all_goals go_ret
  all_goals exact ⟨ret_int rfl, by assumption⟩

theorem rsaturate_any (x : Int) (w0 w : World) (hw : Drew w0 w) :
    Calls Try.prog 28 #[.int .i64 x] w fun e w' => e = .returned (.int .i64 (sat x)) ∧ Drew w0 w' := by
  go_enter Try.func28, Try.ntmps28
  go_wp2_with (go_at_call 49; refine (rclamp_any _ _ _ w0 _ (by assumption)).mono ?_; rintro e w1 ⟨rfl, D1⟩)
  all_goals go_ret
  all_goals exact ⟨ret_int (clamp_sat x), by assumption⟩

theorem radd_any (a b : Int) (w0 w : World) (hw : Drew w0 w) :
    Calls Try.prog 35 #[.int .i64 a, .int .i64 b] w fun e w' => e = .returned (.int .i64 (addv a b)) ∧ Drew w0 w' := by
  have ba := sat_bd a
  have bb := sat_bd b
  go_enter Try.func35, Try.ntmps35
  go_wp2_with (go_at_call 28; refine (rsaturate_any _ w0 _ (by assumption)).mono ?_; rintro e w1 ⟨rfl, D1⟩)
  all_goals go_ret
  all_goals exact ⟨ret_int rfl, by assumption⟩

theorem rsub_any (a b : Int) (w0 w : World) (hw : Drew w0 w) :
    Calls Try.prog 37 #[.int .i64 a, .int .i64 b] w fun e w' => e = .returned (.int .i64 (subv a b)) ∧ Drew w0 w' := by
  have ba := sat_bd a
  have bb := sat_bd b
  go_enter Try.func37, Try.ntmps37
  go_wp2_with (go_at_call 28; refine (rsaturate_any _ w0 _ (by assumption)).mono ?_; rintro e w1 ⟨rfl, D1⟩)
  all_goals go_ret
  all_goals exact ⟨ret_int rfl, by assumption⟩

theorem rounddiv_any (n d : Int) (w0 w : World) (hw : Drew w0 w) :
    Calls Try.prog 53 #[.int .i64 n, .int .i64 d] w fun e w' => e = .returned (.int .i64 (rda n d)) ∧ Drew w0 w' := by
  by_cases h : 1 ≤ d ∧ d ≤ 4611686018427387904 ∧ -4611686018427387904 ≤ n ∧ n ≤ 4611686018427387904
  · obtain ⟨h1, h2, h3, h4⟩ := h
    obtain ⟨⟨b1, b2⟩, b3, b4⟩ := quo_rem_bd n d h1 4611686018427387904 h3 h4
    go_enter Try.func53, Try.ntmps53
    go_wp2
    go_quiet (fail)
    go_wp2
    all_goals go_ret
    all_goals exact ⟨ret_int (by rw [rda_in n d h1 h2 h3 h4, rdv_t n d h1]; grind), Drew.more hw _⟩
  · have ho := rda_out n d (by omega)
    have HO := Lib.hid ho
    clear ho
    go_enter Try.func53, Try.ntmps53
    go_wp2
    all_goals first | (go_ret; exact ⟨ret_int HO.out.symm, hw⟩) | omega

theorem rrounddiv_pos (n d : Int) (h0 : 0 ≤ n) (w0 w : World) (hw : Drew w0 w) :
    Calls Try.prog 55 #[.int .i64 n, .int .i64 d] w fun e w' => e = .returned (.int .i64 (rda n d)) ∧ Drew w0 w' := by
  by_cases h : 1 ≤ d ∧ d ≤ 4611686018427387904 ∧ -4611686018427387904 ≤ n ∧ n ≤ 4611686018427387904
  · obtain ⟨h1, h2, h3, h4⟩ := h
    have r0 := Int.emod_nonneg n (b := d) (by omega)
    have r1 := Int.emod_lt_of_pos n (b := d) (by omega)
    have q0 : 0 ≤ n / d := Int.ediv_nonneg (by omega) (by omega)
    have q1 : n / d ≤ n := Int.ediv_le_self _ h0
    go_enter Try.func55, Try.ntmps55
    go_wp2_with fail
    go_quiet (fail)
    go_wp2_with fail
    all_goals go_ret
    all_goals exact ⟨ret_int (by rw [rda_in n d h1 h2 h3 h4, rdv, if_pos h0, half_up _ _ h1]; grind), Drew.more hw _⟩
  · have ho := rda_out n d (by omega)
    have HO := Lib.hid ho
    clear ho
    go_enter Try.func55, Try.ntmps55
    go_wp2_with fail
    all_goals first | (go_ret; exact ⟨ret_int HO.out.symm, hw⟩) | omega

theorem rrounddiv_any (n d : Int) (w0 w : World) (hw : Drew w0 w) :
    Calls Try.prog 55 #[.int .i64 n, .int .i64 d] w fun e w' => e = .returned (.int .i64 (rda n d)) ∧ Drew w0 w' := by
  by_cases h0 : 0 ≤ n
  · exact rrounddiv_pos n d h0 w0 w hw
  have bd := rda_bd (-n) d
  by_cases h : 1 ≤ d ∧ d ≤ 4611686018427387904 ∧ -4611686018427387904 ≤ n ∧ n ≤ 4611686018427387904
  · obtain ⟨h1, h2, h3, h4⟩ := h
    go_enter Try.func55, Try.ntmps55
    go_wp2_with (go_at_call 55; refine (rrounddiv_pos _ _ (by omega) w0 _ (by assumption)).mono ?_; rintro e w1 ⟨rfl, D1⟩)
    all_goals go_ret
    all_goals exact ⟨ret_int (by rw [rda_neg]; omega), by assumption⟩
  · have ho := rda_out n d (by omega)
    have HO := Lib.hid ho
    clear ho
    go_enter Try.func55, Try.ntmps55
    go_wp2_with fail
    all_goals first | (go_ret; exact ⟨ret_int HO.out.symm, hw⟩) | omega

theorem mul_any (a b : Int) (w0 w : World) (hw : Drew w0 w) :
    Calls Try.prog 32 #[.int .i64 a, .int .i64 b] w fun e w' => e = .returned (.int .i64 (mulv a b)) ∧ Drew w0 w' := by
  have bp := sat_prod a b
  go_enter Try.func32, Try.ntmps32
  go_wp2_with (first | (go_at_call 34; refine (saturate_any _ w0 _ (by assumption)).mono ?_; rintro e w1 ⟨rfl, D1⟩) | (go_at_call 53; refine (rounddiv_any _ _ w0 _ (by assumption)).mono ?_; rintro e w1 ⟨rfl, D1⟩))
  all_goals go_ret
  all_goals exact ⟨ret_int rfl, by assumption⟩

theorem rmul_any (a b : Int) (w0 w : World) (hw : Drew w0 w) :
    Calls Try.prog 36 #[.int .i64 a, .int .i64 b] w fun e w' => e = .returned (.int .i64 (mulv a b)) ∧ Drew w0 w' := by
  have bp := sat_prod a b
  go_enter Try.func36, Try.ntmps36
  go_wp2_with (first | (go_at_call 28; refine (rsaturate_any _ w0 _ (by assumption)).mono ?_; rintro e w1 ⟨rfl, D1⟩) | (go_at_call 55; refine (rrounddiv_any _ _ w0 _ (by assumption)).mono ?_; rintro e w1 ⟨rfl, D1⟩))
  all_goals go_ret
  all_goals exact ⟨ret_int rfl, by assumption⟩

end Go.Proofs.Ytainijafljpiaaa
