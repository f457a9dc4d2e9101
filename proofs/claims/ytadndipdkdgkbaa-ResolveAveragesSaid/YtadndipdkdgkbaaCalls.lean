/- What each call of package fixed, and of its reference, returns: a number of the plain arithmetic; of the world no more has changed than the count of the orders that were drawn. -/
import Derived.Test.YtadndipdkdgkbaaRows
import Derived.Test.YtadndipdkdgkbaaMath
import Derived.WalkKit
import Derived.WalkSpells
import Derived.WalkLawsBesides
import Derived.RowKit3
import Derived.Lib.Hide
import Derived.Deep.QuietTactic
import Derived.BigQuiet
namespace Go.Proofs.Ytadndipdkdgkbaa
set_option linter.unusedSimpArgs false
open Go.RowKit

/-- No more has happened in between than that orders were drawn. -/
def Drew (w w' : World) : Prop := ∃ m, w' = w.drewN m

theorem Drew.refl (w : World) : Drew w w := ⟨0, rfl⟩

theorem Drew.more {w w' : World} (h : Drew w w') (n : Nat) : Drew w (w'.drewN n) := by
  obtain ⟨m, rfl⟩ := h; exact ⟨m + n, World.drewN_drewN _ _ _⟩

theorem Drew.grown {w w' : World} (h : Drew w w') : Grown w w' := by
  obtain ⟨m, rfl⟩ := h; exact Grown.refl w

theorem ret_int {k : IntKind} {a b : Int} (h : a = b) : Ending.returned (.int k a) = .returned (.int k b) := by rw [h]

theorem ret_bool {a b : Bool} (h : a = b) : Ending.returned (.bool a) = .returned (.bool b) := by rw [h]

theorem and_low (n : Int) : bits .and .i64 n 65535 = n % 65536 := by
  have hm : (BitVec.ofInt 64 65535).toNat = 2 ^ 16 - 1 := by decide
  have key : (BitVec.ofInt 64 n &&& BitVec.ofInt 64 65535).toNat = (n % ((2 ^ 64 : Nat) : Int)).toNat % 2 ^ 16 := by
    rw [BitVec.toNat_and, BitVec.toNat_ofInt, hm, Nat.and_two_pow_sub_one_eq_mod]
  show IntKind.i64.wrap ((BitVec.ofInt 64 n &&& BitVec.ofInt 64 65535).toNat : Nat) = n % 65536
  rw [key, IntKind.wrap_i64]
  omega

theorem clamp_any (x lo hi : Int) (w0 w : World) (hw : Drew w0 w) :
    Calls Try.prog 40 #[.int .i64 x, .int .i64 lo, .int .i64 hi] w fun e w' => e = .returned (.int .i64 (clampv x lo hi)) ∧ Drew w0 w' := by
  go_enter Try.func40, Try.ntmps40
  go_wp2
  all_goals go_ret
  all_goals exact ⟨ret_int (by unfold clampv; grind), by assumption⟩

theorem rclamp_any (x lo hi : Int) (w0 w : World) (hw : Drew w0 w) :
    Calls Try.prog 41 #[.int .i64 x, .int .i64 lo, .int .i64 hi] w fun e w' => e = .returned (.int .i64 (clampv x lo hi)) ∧ Drew w0 w' := by
  go_enter Try.func41, Try.ntmps41
  go_wp2
  all_goals go_ret
  all_goals exact ⟨ret_int (by unfold clampv; grind), by assumption⟩

theorem saturate_any (x : Int) (w0 w : World) (hw : Drew w0 w) :
    Calls Try.prog 23 #[.int .i64 x] w fun e w' => e = .returned (.int .i64 (sat x)) ∧ Drew w0 w' := by
  go_enter Try.func23, Try.ntmps23
  go_wp2_with (go_at_call 40; refine (clamp_any _ _ _ w0 _ (by assumption)).mono ?_; rintro e w1 ⟨rfl, D1⟩)
  all_goals go_ret
  all_goals exact ⟨ret_int (clamp_sat x), by assumption⟩

theorem rsaturate_any (x : Int) (w0 w : World) (hw : Drew w0 w) :
    Calls Try.prog 25 #[.int .i64 x] w fun e w' => e = .returned (.int .i64 (sat x)) ∧ Drew w0 w' := by
  go_enter Try.func25, Try.ntmps25
  go_wp2_with (go_at_call 41; refine (rclamp_any _ _ _ w0 _ (by assumption)).mono ?_; rintro e w1 ⟨rfl, D1⟩)
  all_goals go_ret
  all_goals exact ⟨ret_int (clamp_sat x), by assumption⟩

theorem rounddiv_any (n d : Int) (w0 w : World) (hw : Drew w0 w) :
    Calls Try.prog 24 #[.int .i64 n, .int .i64 d] w fun e w' => e = .returned (.int .i64 (rda n d)) ∧ Drew w0 w' := by
  by_cases h : 1 ≤ d ∧ d ≤ 4611686018427387904 ∧ -4611686018427387904 ≤ n ∧ n ≤ 4611686018427387904
  · obtain ⟨h1, h2, h3, h4⟩ := h
    obtain ⟨⟨b1, b2⟩, b3, b4⟩ := quo_rem_bd n d h1 4611686018427387904 h3 h4
    go_enter Try.func24, Try.ntmps24
    go_wp2
    go_quiet (fail)
    go_wp2
    all_goals go_ret
    all_goals exact ⟨ret_int (by rw [rda_in n d h1 h2 h3 h4, rdv_t n d h1]; grind), Drew.more hw _⟩
  · have ho := rda_out n d (by omega)
    have HO := Lib.hid ho
    clear ho
    go_enter Try.func24, Try.ntmps24
    go_wp2
    all_goals first | (go_ret; exact ⟨ret_int HO.out.symm, hw⟩) | omega

theorem rrounddiv_pos (n d : Int) (h0 : 0 ≤ n) (w0 w : World) (hw : Drew w0 w) :
    Calls Try.prog 26 #[.int .i64 n, .int .i64 d] w fun e w' => e = .returned (.int .i64 (rda n d)) ∧ Drew w0 w' := by
  by_cases h : 1 ≤ d ∧ d ≤ 4611686018427387904 ∧ -4611686018427387904 ≤ n ∧ n ≤ 4611686018427387904
  · obtain ⟨h1, h2, h3, h4⟩ := h
    have r0 := Int.emod_nonneg n (b := d) (by omega)
    have r1 := Int.emod_lt_of_pos n (b := d) (by omega)
    have q0 : 0 ≤ n / d := Int.ediv_nonneg (by omega) (by omega)
    have q1 : n / d ≤ n := Int.ediv_le_self _ h0
    go_enter Try.func26, Try.ntmps26
    go_wp2_with fail
    go_quiet (fail)
    go_wp2_with fail
    all_goals go_ret
    all_goals exact ⟨ret_int (by rw [rda_in n d h1 h2 h3 h4, rdv, if_pos h0, half_up _ _ h1]; grind), Drew.more hw _⟩
  · have ho := rda_out n d (by omega)
    have HO := Lib.hid ho
    clear ho
    go_enter Try.func26, Try.ntmps26
    go_wp2_with fail
    all_goals first | (go_ret; exact ⟨ret_int HO.out.symm, hw⟩) | omega

theorem rrounddiv_any (n d : Int) (w0 w : World) (hw : Drew w0 w) :
    Calls Try.prog 26 #[.int .i64 n, .int .i64 d] w fun e w' => e = .returned (.int .i64 (rda n d)) ∧ Drew w0 w' := by
  by_cases h0 : 0 ≤ n
  · exact rrounddiv_pos n d h0 w0 w hw
  have bd := rda_bd (-n) d
  by_cases h : 1 ≤ d ∧ d ≤ 4611686018427387904 ∧ -4611686018427387904 ≤ n ∧ n ≤ 4611686018427387904
  · obtain ⟨h1, h2, h3, h4⟩ := h
    go_enter Try.func26, Try.ntmps26
    go_wp2_with (go_at_call 26; refine (rrounddiv_pos _ _ (by omega) w0 _ (by assumption)).mono ?_; rintro e w1 ⟨rfl, D1⟩)
    all_goals go_ret
    all_goals exact ⟨ret_int (by rw [rda_neg]; omega), by assumption⟩
  · have ho := rda_out n d (by omega)
    have HO := Lib.hid ho
    clear ho
    go_enter Try.func26, Try.ntmps26
    go_wp2_with fail
    all_goals first | (go_ret; exact ⟨ret_int HO.out.symm, hw⟩) | omega

end Go.Proofs.Ytadndipdkdgkbaa
