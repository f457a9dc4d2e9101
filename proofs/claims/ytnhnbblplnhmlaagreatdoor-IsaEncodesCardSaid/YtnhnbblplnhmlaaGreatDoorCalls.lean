/- What each call of package fixed, and of its reference, returns: a number of the plain arithmetic; of the world no more has changed than the count of the orders that were drawn. -/
import Derived.Test.YtnhnbblplnhmlaaGreatDoorRows
import Derived.Test.YtnhnbblplnhmlaaGreatDoorMath
import Derived.WalkKit
import Derived.WalkSpells
import Derived.WalkLawsBesides
import Derived.RowKit3
import Derived.Lib.Hide
import Derived.Deep.QuietTactic
import Derived.BigQuiet
namespace Go.Proofs.YtnhnbblplnhmlaaGreatDoor
set_option linter.unusedSimpArgs false
open Go.RowKit

/-- No more has happened in between than that orders were drawn. -/
def Drew (w w' : World) : Prop := ∃ m, w' = w.drewN m

theorem Drew.refl (w : World) : Drew w w := ⟨0, rfl⟩

theorem Drew.more {w w' : World} (h : Drew w w') (n : Nat) : Drew w (w'.drewN n) := by
  obtain ⟨m, rfl⟩ := h; exact ⟨m + n, World.drewN_drewN _ _ _⟩

theorem Drew.grown {w w' : World} (h : Drew w w') : Grown w w' := by
  obtain ⟨m, rfl⟩ := h; exact Grown.refl w

theorem ret_int {k : IntKind} {a b : Int} (h : a = b) : Ending.returned (.int k a) = .returned (.int k b) := by rw [h]

theorem ret_bool {a b : Bool} (h : a = b) : Ending.returned (.bool a) = .returned (.bool b) := by rw [h]

theorem and_low (n : Int) : bits .and .i64 n 65535 = n % 65536 := by
  have hm : (BitVec.ofInt 64 65535).toNat = 2 ^ 16 - 1 := by decide
  have key : (BitVec.ofInt 64 n &&& BitVec.ofInt 64 65535).toNat = (n % ((2 ^ 64 : Nat) : Int)).toNat % 2 ^ 16 := by
    rw [BitVec.toNat_and, BitVec.toNat_ofInt, hm, Nat.and_two_pow_sub_one_eq_mod]
  show IntKind.i64.wrap ((BitVec.ofInt 64 n &&& BitVec.ofInt 64 65535).toNat : Nat) = n % 65536
  rw [key, IntKind.wrap_i64]
  omega

theorem clamp_any (x lo hi : Int) (w0 w : World) (hw : Drew w0 w) :
    Calls Tryz.prog 92 #[.int .i64 x, .int .i64 lo, .int .i64 hi] w fun e w' => e = .returned (.int .i64 (clampv x lo hi)) ∧ Drew w0 w' := by
  go_enter Tryz.func92, Tryz.ntmps92
  go_wp2
  all_goals go_ret
  all_goals exact ⟨ret_int (by unfold clampv; grind), by assumption⟩

theorem rclamp_any (x lo hi : Int) (w0 w : World) (hw : Drew w0 w) :
    Calls Tryz.prog 58 #[.int .i64 x, .int .i64 lo, .int .i64 hi] w fun e w' => e = .returned (.int .i64 (clampv x lo hi)) ∧ Drew w0 w' := by
  go_enter Tryz.func58, Tryz.ntmps58
  go_wp2
  all_goals go_ret
  all_goals exact ⟨ret_int (by unfold clampv; grind), by assumption⟩

theorem saturate_any (x : Int) (w0 w : World) (hw : Drew w0 w) :
    Calls Tryz.prog 52 #[.int .i64 x] w fun e w' => e = .returned (.int .i64 (sat x)) ∧ Drew w0 w' := by
  go_enter Tryz.func52, Tryz.ntmps52
  go_wp2_with (go_at_call 92; refine (clamp_any _ _ _ w0 _ (by assumption)).mono ?_; rintro e w1 ⟨rfl, D1⟩)
  all_goals go_ret
  all_goals exact ⟨ret_int (clamp_sat x), by assumption⟩

theorem add_any (a b : Int) (w0 w : World) (hw : Drew w0 w) :
    Calls Tryz.prog 53 #[.int .i64 a, .int .i64 b] w fun e w' => e = .returned (.int .i64 (addv a b)) ∧ Drew w0 w' := by
  have ba := sat_bd a
  have bb := sat_bd b
  go_enter Tryz.func53, Tryz.ntmps53
  go_wp2_with (go_at_call 52; refine (saturate_any _ w0 _ (by assumption)).mono ?_; rintro e w1 ⟨rfl, D1⟩)
  all_goals go_ret
  all_goals exact ⟨ret_int rfl, by assumption⟩

theorem sub_any (a b : Int) (w0 w : World) (hw : Drew w0 w) :
    Calls Tryz.prog 45 #[.int .i64 a, .int .i64 b] w fun e w' => e = .returned (.int .i64 (subv a b)) ∧ Drew w0 w' := by
  have ba := sat_bd a
  have bb := sat_bd b
  go_enter Tryz.func45, Tryz.ntmps45
  go_wp2_with (go_at_call 52; refine (saturate_any _ w0 _ (by assumption)).mono ?_; rintro e w1 ⟨rfl, D1⟩)
  all_goals go_ret
  all_goals exact ⟨ret_int rfl, by assumption⟩

theorem rsaturate_any (x : Int) (w0 w : World) (hw : Drew w0 w) :
    Calls Tryz.prog 25 #[.int .i64 x] w fun e w' => e = .returned (.int .i64 (sat x)) ∧ Drew w0 w' := by
  go_enter Tryz.func25, Tryz.ntmps25
  go_wp2_with (go_at_call 58; refine (rclamp_any _ _ _ w0 _ (by assumption)).mono ?_; rintro e w1 ⟨rfl, D1⟩)
  all_goals go_ret
  all_goals exact ⟨ret_int (clamp_sat x), by assumption⟩

theorem radd_any (a b : Int) (w0 w : World) (hw : Drew w0 w) :
    Calls Tryz.prog 20 #[.int .i64 a, .int .i64 b] w fun e w' => e = .returned (.int .i64 (addv a b)) ∧ Drew w0 w' := by
  have ba := sat_bd a
  have bb := sat_bd b
  go_enter Tryz.func20, Tryz.ntmps20
  go_wp2_with (go_at_call 25; refine (rsaturate_any _ w0 _ (by assumption)).mono ?_; rintro e w1 ⟨rfl, D1⟩)
  all_goals go_ret
  all_goals exact ⟨ret_int rfl, by assumption⟩

theorem rsub_any (a b : Int) (w0 w : World) (hw : Drew w0 w) :
    Calls Tryz.prog 21 #[.int .i64 a, .int .i64 b] w fun e w' => e = .returned (.int .i64 (subv a b)) ∧ Drew w0 w' := by
  have ba := sat_bd a
  have bb := sat_bd b
  go_enter Tryz.func21, Tryz.ntmps21
  go_wp2_with (go_at_call 25; refine (rsaturate_any _ w0 _ (by assumption)).mono ?_; rintro e w1 ⟨rfl, D1⟩)
  all_goals go_ret
  all_goals exact ⟨ret_int rfl, by assumption⟩

theorem rounddiv_any (n d : Int) (w0 w : World) (hw : Drew w0 w) :
    Calls Tryz.prog 93 #[.int .i64 n, .int .i64 d] w fun e w' => e = .returned (.int .i64 (rda n d)) ∧ Drew w0 w' := by
  by_cases h : 1 ≤ d ∧ d ≤ 4611686018427387904 ∧ -4611686018427387904 ≤ n ∧ n ≤ 4611686018427387904
  · obtain ⟨h1, h2, h3, h4⟩ := h
    obtain ⟨⟨b1, b2⟩, b3, b4⟩ := quo_rem_bd n d h1 4611686018427387904 h3 h4
    go_enter Tryz.func93, Tryz.ntmps93
    go_wp2
    go_quiet (fail)
    go_wp2
    all_goals go_ret
    all_goals exact ⟨ret_int (by rw [rda_in n d h1 h2 h3 h4, rdv_t n d h1]; grind), Drew.more hw _⟩
  · have ho := rda_out n d (by omega)
    have HO := Lib.hid ho
    clear ho
    go_enter Tryz.func93, Tryz.ntmps93
    go_wp2
    all_goals first | (go_ret; exact ⟨ret_int HO.out.symm, hw⟩) | omega

theorem rrounddiv_pos (n d : Int) (h0 : 0 ≤ n) (w0 w : World) (hw : Drew w0 w) :
    Calls Tryz.prog 57 #[.int .i64 n, .int .i64 d] w fun e w' => e = .returned (.int .i64 (rda n d)) ∧ Drew w0 w' := by
  by_cases h : 1 ≤ d ∧ d ≤ 4611686018427387904 ∧ -4611686018427387904 ≤ n ∧ n ≤ 4611686018427387904
  · obtain ⟨h1, h2, h3, h4⟩ := h
    have r0 := Int.emod_nonneg n (b := d) (by omega)
    have r1 := Int.emod_lt_of_pos n (b := d) (by omega)
    have q0 : 0 ≤ n / d := Int.ediv_nonneg (by omega) (by omega)
    have q1 : n / d ≤ n := Int.ediv_le_self _ h0
    go_enter Tryz.func57, Tryz.ntmps57
    go_wp2_with fail
    go_quiet (fail)
    go_wp2_with fail
    all_goals go_ret
    all_goals exact ⟨ret_int (by rw [rda_in n d h1 h2 h3 h4, rdv, if_pos h0, half_up _ _ h1]; grind), Drew.more hw _⟩
  · have ho := rda_out n d (by omega)
    have HO := Lib.hid ho
    clear ho
    go_enter Tryz.func57, Tryz.ntmps57
    go_wp2_with fail
    all_goals first | (go_ret; exact ⟨ret_int HO.out.symm, hw⟩) | omega

theorem rrounddiv_any (n d : Int) (w0 w : World) (hw : Drew w0 w) :
    Calls Tryz.prog 57 #[.int .i64 n, .int .i64 d] w fun e w' => e = .returned (.int .i64 (rda n d)) ∧ Drew w0 w' := by
  by_cases h0 : 0 ≤ n
  · exact rrounddiv_pos n d h0 w0 w hw
  have bd := rda_bd (-n) d
  by_cases h : 1 ≤ d ∧ d ≤ 4611686018427387904 ∧ -4611686018427387904 ≤ n ∧ n ≤ 4611686018427387904
  · obtain ⟨h1, h2, h3, h4⟩ := h
    go_enter Tryz.func57, Tryz.ntmps57
    go_wp2_with (go_at_call 57; refine (rrounddiv_pos _ _ (by omega) w0 _ (by assumption)).mono ?_; rintro e w1 ⟨rfl, D1⟩)
    all_goals go_ret
    all_goals exact ⟨ret_int (by rw [rda_neg]; omega), by assumption⟩
  · have ho := rda_out n d (by omega)
    have HO := Lib.hid ho
    clear ho
    go_enter Tryz.func57, Tryz.ntmps57
    go_wp2_with fail
    all_goals first | (go_ret; exact ⟨ret_int HO.out.symm, hw⟩) | omega

theorem isnan_any (x : Int) (w0 w : World) (hw : Drew w0 w) :
    Calls Tryz.prog 116 #[.int .i64 x] w fun e w' => e = .returned (.bool false) ∧ Drew w0 w' := by
  go_enter Tryz.func116, Tryz.ntmps116
  go_wp2
  go_ret
  exact ⟨ret_bool (by simp), hw⟩

theorem compare_any (x y : Int) (w0 w : World) (hw : Drew w0 w) :
    Calls Tryz.prog 94 #[.int .i64 x, .int .i64 y] w fun e w' => e = .returned (.int .i64 (sgn x y)) ∧ Drew w0 w' := by
  go_enter Tryz.func94, Tryz.ntmps94
  go_wp2_with (go_at_call 116; refine (isnan_any _ w0 _ (by assumption)).mono ?_; rintro e w1 ⟨rfl, D1⟩)
  all_goals go_ret
  all_goals exact ⟨ret_int (by unfold sgn; grind), by assumption⟩

theorem mul_any (a b : Int) (w0 w : World) (hw : Drew w0 w) :
    Calls Tryz.prog 54 #[.int .i64 a, .int .i64 b] w fun e w' => e = .returned (.int .i64 (mulv a b)) ∧ Drew w0 w' := by
  have bp := sat_prod a b
  go_enter Tryz.func54, Tryz.ntmps54
  go_wp2_with (first | (go_at_call 52; refine (saturate_any _ w0 _ (by assumption)).mono ?_; rintro e w1 ⟨rfl, D1⟩) | (go_at_call 93; refine (rounddiv_any _ _ w0 _ (by assumption)).mono ?_; rintro e w1 ⟨rfl, D1⟩))
  all_goals go_ret
  all_goals exact ⟨ret_int rfl, by assumption⟩

theorem rmul_any (a b : Int) (w0 w : World) (hw : Drew w0 w) :
    Calls Tryz.prog 22 #[.int .i64 a, .int .i64 b] w fun e w' => e = .returned (.int .i64 (mulv a b)) ∧ Drew w0 w' := by
  have bp := sat_prod a b
  go_enter Tryz.func22, Tryz.ntmps22
  go_wp2_with (first | (go_at_call 25; refine (rsaturate_any _ w0 _ (by assumption)).mono ?_; rintro e w1 ⟨rfl, D1⟩) | (go_at_call 57; refine (rrounddiv_any _ _ w0 _ (by assumption)).mono ?_; rintro e w1 ⟨rfl, D1⟩))
  all_goals go_ret
  all_goals exact ⟨ret_int rfl, by assumption⟩

theorem div_any (a b : Int) (w0 w : World) (hw : Drew w0 w) :
    Calls Tryz.prog 55 #[.int .i64 a, .int .i64 b] w fun e w' => e = .returned (.int .i64 (divv a b)) ∧ Drew w0 w' := by
  have ba := sat_bd a
  have bb := sat_bd b
  have bs := sgn_in (sat a * 65536) 0
  by_cases h0 : sat b = 0
  · have h0' : (sat b == 0) = true := by simpa using h0
    have HV : Hid (divv a b = if 0 < sat a then 536870911 else if sat a < 0 then -536870911 else 0) := Lib.hid (by unfold divv; rw [if_pos h0])
    have HS : Hid (sgn (sat a * 65536) 0 = if 0 < sat a then 1 else if sat a < 0 then -1 else 0) := Lib.hid (by unfold sgn; grind)
    clear h0
    go_enter Tryz.func55, Tryz.ntmps55
    go_wp2_with (first | (go_at_call 52; refine (saturate_any _ w0 _ (by assumption)).mono ?_; rintro e w1 ⟨rfl, D1⟩) | (go_at_call 93; refine (rounddiv_any _ _ w0 _ (by assumption)).mono ?_; rintro e w1 ⟨rfl, D1⟩) | (go_at_call 94; refine (compare_any _ _ w0 _ (by assumption)).mono ?_; rintro e w1 ⟨rfl, D1⟩))
    all_goals go_ret
    all_goals exact ⟨ret_int (by rw [HV.out, HS.out]; grind), by assumption⟩
  · have h0' : (sat b == 0) = false := by simpa using h0
    by_cases h1 : sat b < 0
    · have HV : Hid (divv a b = sat (rda (-(sat a * 65536)) (-sat b))) := Lib.hid (by unfold divv; rw [if_neg h0, if_pos h1])
      have h2 : (-sat b == 0) = false := by simp; omega
      clear h0
      go_enter Tryz.func55, Tryz.ntmps55
      go_wp2_with (first | (go_at_call 52; refine (saturate_any _ w0 _ (by assumption)).mono ?_; rintro e w1 ⟨rfl, D1⟩) | (go_at_call 93; refine (rounddiv_any _ _ w0 _ (by assumption)).mono ?_; rintro e w1 ⟨rfl, D1⟩) | (go_at_call 94; refine (compare_any _ _ w0 _ (by assumption)).mono ?_; rintro e w1 ⟨rfl, D1⟩))
      all_goals go_ret
      all_goals exact ⟨ret_int HV.out.symm, by assumption⟩
    · have HV : Hid (divv a b = sat (rda (sat a * 65536) (sat b))) := Lib.hid (by unfold divv; rw [if_neg h0, if_neg h1])
      clear h0
      go_enter Tryz.func55, Tryz.ntmps55
      go_wp2_with (first | (go_at_call 52; refine (saturate_any _ w0 _ (by assumption)).mono ?_; rintro e w1 ⟨rfl, D1⟩) | (go_at_call 93; refine (rounddiv_any _ _ w0 _ (by assumption)).mono ?_; rintro e w1 ⟨rfl, D1⟩) | (go_at_call 94; refine (compare_any _ _ w0 _ (by assumption)).mono ?_; rintro e w1 ⟨rfl, D1⟩))
      all_goals go_ret
      all_goals exact ⟨ret_int HV.out.symm, by assumption⟩

theorem rdiv_any (a b : Int) (w0 w : World) (hw : Drew w0 w) :
    Calls Tryz.prog 23 #[.int .i64 a, .int .i64 b] w fun e w' => e = .returned (.int .i64 (divv a b)) ∧ Drew w0 w' := by
  have ba := sat_bd a
  have bb := sat_bd b
  by_cases h0 : sat b = 0
  · have h0' : (sat b == 0) = true := by simpa using h0
    have HV : Hid (divv a b = if 0 < sat a then 536870911 else if sat a < 0 then -536870911 else 0) := Lib.hid (by unfold divv; rw [if_pos h0])
    skip
    clear h0
    go_enter Tryz.func23, Tryz.ntmps23
    go_wp2_with (first | (go_at_call 25; refine (rsaturate_any _ w0 _ (by assumption)).mono ?_; rintro e w1 ⟨rfl, D1⟩) | (go_at_call 57; refine (rrounddiv_any _ _ w0 _ (by assumption)).mono ?_; rintro e w1 ⟨rfl, D1⟩))
    all_goals go_ret
    all_goals exact ⟨ret_int (by rw [HV.out]; grind), by assumption⟩
  · have h0' : (sat b == 0) = false := by simpa using h0
    by_cases h1 : sat b < 0
    · have HV : Hid (divv a b = sat (rda (-(sat a * 65536)) (-sat b))) := Lib.hid (by unfold divv; rw [if_neg h0, if_pos h1])
      have h2 : (-sat b == 0) = false := by simp; omega
      clear h0
      go_enter Tryz.func23, Tryz.ntmps23
      go_wp2_with (first | (go_at_call 25; refine (rsaturate_any _ w0 _ (by assumption)).mono ?_; rintro e w1 ⟨rfl, D1⟩) | (go_at_call 57; refine (rrounddiv_any _ _ w0 _ (by assumption)).mono ?_; rintro e w1 ⟨rfl, D1⟩))
      all_goals go_ret
      all_goals exact ⟨ret_int HV.out.symm, by assumption⟩
    · have HV : Hid (divv a b = sat (rda (sat a * 65536) (sat b))) := Lib.hid (by unfold divv; rw [if_neg h0, if_neg h1])
      clear h0
      go_enter Tryz.func23, Tryz.ntmps23
      go_wp2_with (first | (go_at_call 25; refine (rsaturate_any _ w0 _ (by assumption)).mono ?_; rintro e w1 ⟨rfl, D1⟩) | (go_at_call 57; refine (rrounddiv_any _ _ w0 _ (by assumption)).mono ?_; rintro e w1 ⟨rfl, D1⟩))
      all_goals go_ret
      all_goals exact ⟨ret_int HV.out.symm, by assumption⟩

theorem fract_any (x : Int) (w0 w : World) (hw : Drew w0 w) :
    Calls Tryz.prog 48 #[.int .i64 x] w fun e w' => e = .returned (.int .i64 (fractv x)) ∧ Drew w0 w' := by
  have hb := fractv_bd x
  go_enter Tryz.func48, Tryz.ntmps48
  go_wp2_with (go_at_call 52; refine (saturate_any _ w0 _ (by assumption)).mono ?_; rintro e w1 ⟨rfl, D1⟩)
  go_ret
  exact ⟨ret_int (by first | exact and_low _ | rfl), by assumption⟩

theorem floor_any (x : Int) (w0 w : World) (hw : Drew w0 w) :
    Calls Tryz.prog 47 #[.int .i64 x] w fun e w' => e = .returned (.int .i64 (floorv x)) ∧ Drew w0 w' := by
  have ba := sat_bd x
  have hb := fractv_bd (sat x)
  have HS : Hid (fractv (sat x) = sat x % 65536) := Lib.hid (by unfold fractv; rw [sat_sat])
  go_enter Tryz.func47, Tryz.ntmps47
  go_wp2_with (first | (go_at_call 52; refine (saturate_any _ w0 _ (by assumption)).mono ?_; rintro e w1 ⟨rfl, D1⟩) | (go_at_call 48; refine (fract_any _ w0 _ (by assumption)).mono ?_; rintro e w1 ⟨rfl, D1⟩))
  go_ret
  exact ⟨ret_int (by unfold floorv; rw [HS.out]), by assumption⟩

theorem multiple_any (x : Int) (w0 w : World) (hw : Drew w0 w) :
    Calls Tryz.prog 96 #[.int .i64 x] w fun e w' => e = .returned (.int .i64 (mulo x)) ∧ Drew w0 w' := by
  have ba := sat_bd x
  have HT : Hid ((sat x).tdiv 65536 = if 0 ≤ sat x then sat x / 65536 else -((-sat x) / 65536)) := Lib.hid (td_if _ _)
  obtain ⟨t1, t2⟩ : -8192 ≤ (sat x).tdiv 65536 ∧ (sat x).tdiv 65536 ≤ 8192 := by rw [td_if]; split <;> omega
  go_enter Tryz.func96, Tryz.ntmps96
  go_wp2_with (go_at_call 25; refine (rsaturate_any _ w0 _ (by assumption)).mono ?_; rintro e w1 ⟨rfl, D1⟩)
  all_goals go_ret
  all_goals exact ⟨ret_int (by have h := HT.out; unfold mulo; split at h <;> omega), by assumption⟩

theorem rfloor_any (x : Int) (w0 w : World) (hw : Drew w0 w) :
    Calls Tryz.prog 62 #[.int .i64 x] w fun e w' => e = .returned (.int .i64 (floorv x)) ∧ Drew w0 w' := by
  have ba := mulo_bd x
  go_enter Tryz.func62, Tryz.ntmps62
  go_wp2_with (first | (go_at_call 25; refine (rsaturate_any _ w0 _ (by assumption)).mono ?_; rintro e w1 ⟨rfl, D1⟩) | (go_at_call 96; refine (multiple_any _ w0 _ (by assumption)).mono ?_; rintro e w1 ⟨rfl, D1⟩))
  go_ret
  exact ⟨ret_int (floorv_mulo x), by assumption⟩

theorem rfract_any (x : Int) (w0 w : World) (hw : Drew w0 w) :
    Calls Tryz.prog 63 #[.int .i64 x] w fun e w' => e = .returned (.int .i64 (fractv x)) ∧ Drew w0 w' := by
  have ba := mulo_bd x
  have bb := sat_bd x
  go_enter Tryz.func63, Tryz.ntmps63
  go_wp2_with (first | (go_at_call 25; refine (rsaturate_any _ w0 _ (by assumption)).mono ?_; rintro e w1 ⟨rfl, D1⟩) | (go_at_call 96; refine (multiple_any _ w0 _ (by assumption)).mono ?_; rintro e w1 ⟨rfl, D1⟩))
  go_ret
  exact ⟨ret_int (fractv_mulo x), by assumption⟩

theorem wrap_any (x : Int) (w0 w : World) (hw : Drew w0 w) :
    Calls Tryz.prog 44 #[.int .i64 x] w fun e w' => e = .returned (.int .i64 (wrapv x)) ∧ Drew w0 w' := by
  go_enter Tryz.func44, Tryz.ntmps44
  go_wp2
  go_ret
  exact ⟨ret_int (by rw [wrap32_is, IntWalk.wrap64_in _ (by unfold wrapv; omega)]), hw⟩

theorem rwrap_any (x : Int) (w0 w : World) (hw : Drew w0 w) :
    Calls Tryz.prog 28 #[.int .i64 x] w fun e w' => e = .returned (.int .i64 (wrapv x)) ∧ Drew w0 w' := by
  have HT : Hid (x.tmod 4294967296 = if 0 ≤ x then x % 4294967296 else -((-x) % 4294967296)) := Lib.hid (tm_if _ _)
  obtain ⟨t1, t2⟩ : -4294967295 ≤ x.tmod 4294967296 ∧ x.tmod 4294967296 ≤ 4294967295 := by rw [tm_if]; split <;> omega
  go_enter Tryz.func28, Tryz.ntmps28
  go_wp2
  all_goals go_ret
  all_goals exact ⟨ret_int (by have h := HT.out; unfold wrapv; split at h <;> omega), hw⟩

theorem sqrt_any (x : Int) (w0 w : World) (hw : Drew w0 w) :
    Calls Tryz.prog 49 #[.int .i64 x] w fun e w' => e = .returned (.int .i64 (sqrtv x)) ∧ Drew w0 w' := by
  have ba := sat_bd x
  go_enter Tryz.func49, Tryz.ntmps49
  go_wp2_with (go_at_call 52; refine (saturate_any _ w0 _ (by assumption)).mono ?_; rintro e w1 ⟨rfl, D1⟩)
  go_loop [4, 5] (fun r i => ∃ (k : Nat) (n : Int), Sq (sat x * 65536) k n ∧ r = .int .i64 n ∧ i = .int .i64 (hbit k)) (fun _ i => (intOf i).toNat)
  case atStart => exact ⟨23, 0, Sq.start _, rfl, rfl⟩
  case round =>
    obtain ⟨k, n, hs, rfl, rfl⟩ := hrel
    cases k with
    | zero =>
      have e0 : hbit 0 = 0 := rfl
      go_wp2
      go_ret
      exact ⟨ret_int hs.done, by assumption⟩
    | succ k =>
      obtain ⟨f1, f2, f3, f4, f5, f6, f7⟩ := hs.facts
      have hb := hbit_half k
      have HB := Lib.hid hb
      clear hb
      by_cases hn : (n + hbit (k + 1)) * (n + hbit (k + 1)) ≤ sat x * 65536
      · have hy := hs.yes hn
        go_wp2
        go_round
        case rel => exact ⟨k, _, hy, by go_num, by rw [← HB.out]⟩
        case measure => simp [intOf]; omega
      · have hy := hs.no hn
        go_wp2
        go_round
        case rel => exact ⟨k, _, hy, by go_num, by rw [← HB.out]⟩
        case measure => simp [intOf]; omega

theorem rsqrt_any (x : Int) (w0 w : World) (hw : Drew w0 w) :
    Calls Tryz.prog 64 #[.int .i64 x] w fun e w' => e = .returned (.int .i64 (sqrtv x)) ∧ Drew w0 w' := by
  have ba := sat_bd x
  by_cases hz : sat x ≤ 0
  · have HV : Hid (sqrtv x = 0) := Lib.hid (sqL_low 23 _ (by omega))
    go_enter Tryz.func64, Tryz.ntmps64
    go_wp2_with (go_at_call 25; refine (rsaturate_any _ w0 _ (by assumption)).mono ?_; rintro e w1 ⟨rfl, D1⟩)
    all_goals first | (go_ret; exact ⟨ret_int HV.out.symm, by assumption⟩) | omega
  go_enter Tryz.func64, Tryz.ntmps64
  go_wp2_with (go_at_call 25; refine (rsaturate_any _ w0 _ (by assumption)).mono ?_; rintro e w1 ⟨rfl, D1⟩)
  go_loop [4, 5] (fun r i => ∃ (k : Nat) (n : Int), Sq (sat x * 65536) k n ∧ r = .int .i64 n ∧ i = .int .i64 (hbit k)) (fun _ i => (intOf i).toNat)
  case atStart => exact ⟨23, 0, Sq.start _, rfl, rfl⟩
  case round =>
    obtain ⟨k, n, hs, rfl, rfl⟩ := hrel
    cases k with
    | zero =>
      have e0 : hbit 0 = 0 := rfl
      go_wp2
      go_ret
      exact ⟨ret_int hs.done, by assumption⟩
    | succ k =>
      obtain ⟨f1, f2, f3, f4, f5, f6, f7⟩ := hs.facts
      have hb := hbit_half k
      have HB := Lib.hid hb
      clear hb
      by_cases hn : (n + hbit (k + 1)) * (n + hbit (k + 1)) ≤ sat x * 65536
      · have hy := hs.yes hn
        go_wp2
        go_round
        case rel => exact ⟨k, _, hy, by go_num, by rw [← HB.out]⟩
        case measure => simp [intOf]; omega
      · have hy := hs.no hn
        go_wp2
        go_round
        case rel => exact ⟨k, _, hy, by go_num, by rw [← HB.out]⟩
        case measure => simp [intOf]; omega

end Go.Proofs.YtnhnbblplnhmlaaGreatDoor
