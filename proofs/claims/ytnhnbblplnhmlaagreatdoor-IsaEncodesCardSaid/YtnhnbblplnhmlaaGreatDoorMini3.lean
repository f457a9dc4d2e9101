/- What each call of package minifloat returns for a valid format: a number of the plain arithmetic; of the world nothing that was there has changed. -/
import Derived.Test.YtnhnbblplnhmlaaGreatDoorRows
import Derived.Test.YtnhnbblplnhmlaaGreatDoorFixedB
import Derived.Test.YtnhnbblplnhmlaaGreatDoorPow
import Derived.Deep.RegionHeld3
import Derived.BigQuiet
import Derived.Test.YtnhnbblplnhmlaaGreatDoorTail
import Derived.Outline
namespace Go.Proofs.YtnhnbblplnhmlaaGreatDoor
set_option linter.unusedSimpArgs false
open Go.RowKit Go.Sort

/-! ### plain numbers -/
/-- Is the format valid? -/
def vld (e m : Int) : Bool := decide (2 ≤ e ∧ e ≤ 5 ∧ 1 ≤ m ∧ m ≤ 10)
theorem vld_yes {e m : Int} (h1 : 2 ≤ e) (h2 : e ≤ 5) (h3 : 1 ≤ m) (h4 : m ≤ 10) : vld e m = true := by unfold vld; simp; omega
theorem vld_no {e m : Int} (h : ¬ (2 ≤ e ∧ e ≤ 5 ∧ 1 ≤ m ∧ m ≤ 10)) : vld e m = false := by unfold vld; simpa using h
def sbit (s : Bool) : Int := if s then 1 else 0
theorem sbit_bd (s : Bool) : 0 ≤ sbit s ∧ sbit s ≤ 1 := by cases s <;> decide
def biasv (e : Int) : Int := pw (e - 1) - 1
theorem biasv_bd {e : Int} (h1 : 2 ≤ e) (h2 : e ≤ 5) : 1 ≤ biasv e ∧ biasv e ≤ 15 := by
  have := pw_le 1 (e - 1) (by omega)
  have := pw_le (e - 1) 4 (by omega)
  have e1 : pw 1 = 2 := rfl
  have e4 : pw 4 = 16 := rfl
  unfold biasv; omega

/-! ### the calls -/
theorem valid_yes (e m : Int) (s : Bool) (w : World) (h1 : 2 ≤ e) (h2 : e ≤ 5) (h3 : 1 ≤ m) (h4 : m ≤ 10) :
    Calls Tryz.prog 113 #[.agg #[.int .i64 e, .int .i64 m, .bool s]] w fun x w' => x = .returned (.bool true) ∧ Below w.heap.size w w' := by
  obtain ⟨c0, c1, c2, BB⟩ := box3 w (.int .i64 e) (.int .i64 m) (.bool s) 78
  go_enter Tryz.func113, Tryz.ntmps113
  go_wp2
  go_ret
  exact ⟨ret_bool (by simp <;> omega), BB⟩

theorem valid_no (e m : Int) (s : Bool) (w : World) (h : ¬ (2 ≤ e ∧ e ≤ 5 ∧ 1 ≤ m ∧ m ≤ 10)) :
    Calls Tryz.prog 113 #[.agg #[.int .i64 e, .int .i64 m, .bool s]] w fun x w' => x = .returned (.bool false) ∧ Below w.heap.size w w' := by
  obtain ⟨c0, c1, c2, BB⟩ := box3 w (.int .i64 e) (.int .i64 m) (.bool s) 78
  go_enter Tryz.func113, Tryz.ntmps113
  go_wp2
  all_goals go_ret
  all_goals exact ⟨ret_bool (by simp <;> omega), BB⟩

theorem bias_b (e m : Int) (s : Bool) (w : World) (h1 : 2 ≤ e) (h2 : e ≤ 5) :
    Calls Tryz.prog 130 #[.agg #[.int .i64 e, .int .i64 m, .bool s]] w fun x w' => x = .returned (.int .i64 (biasv e)) ∧ Below w.heap.size w w' := by
  obtain ⟨c0, c1, c2, BB⟩ := box3 w (.int .i64 e) (.int .i64 m) (.bool s) 78
  have b := biasv_bd h1 h2
  unfold biasv at b
  have q : wrap64 (2 ^ (e.toNat - 1)) = pw (e - 1) := by rw [← pw_wrap (e - 1) (by omega)]; congr 2; omega
  go_enter Tryz.func130, Tryz.ntmps130
  go_wp2
  go_ret
  exact ⟨rfl, BB⟩

theorem signbit_b (e m : Int) (s : Bool) (w : World) (h1 : 2 ≤ e) (h2 : e ≤ 5) (h3 : 1 ≤ m) (h4 : m ≤ 10) :
    Calls Tryz.prog 115 #[.agg #[.int .i64 e, .int .i64 m, .bool s]] w fun x w' => x = .returned (.int .i64 (pw (e + m))) ∧ Below w.heap.size w w' := by
  obtain ⟨c0, c1, c2, BB⟩ := box3 w (.int .i64 e) (.int .i64 m) (.bool s) 78
  have q := pw_i64 (e + m) (by omega)
  go_enter Tryz.func115, Tryz.ntmps115
  go_wp2
  go_ret
  exact ⟨rfl, BB⟩

theorem special_b (e m : Int) (s : Bool) (w : World) (h1 : 2 ≤ e) (h2 : e ≤ 5) :
    Calls Tryz.prog 110 #[.agg #[.int .i64 e, .int .i64 m, .bool s]] w fun x w' => x = .returned (.int .i64 (pw e - 1)) ∧ Below w.heap.size w w' := by
  obtain ⟨c0, c1, c2, BB⟩ := box3 w (.int .i64 e) (.int .i64 m) (.bool s) 78
  have q := pw_wrap e (by omega)
  have b1 := pw_pos e
  have b2 := pw_62 e (by omega)
  go_enter Tryz.func110, Tryz.ntmps110
  go_wp2
  go_ret
  exact ⟨rfl, BB⟩

theorem expscale_b (k : Int) (w : World) (h1 : 0 ≤ k) (h2 : k ≤ 40) :
    Calls Tryz.prog 111 #[.int .i64 k] w fun x w' => x = .returned (.int .i64 (65536 * pw k)) ∧ Below w.heap.size w w' := by
  have b1 := pw_pos k
  have b2 := pw_le k 40 h2
  have e40 : pw 40 = 1099511627776 := rfl
  have q := pw_wrap_mul 65536 k (by omega) (by omega)
  go_enter Tryz.func111, Tryz.ntmps111
  go_wp2
  go_ret
  exact ⟨ret_int (pw_wrap_mul _ _ (by omega) (by omega)), Below.refl _ _⟩

theorem manscale_b (e m : Int) (s : Bool) (w : World) (h1 : 2 ≤ e) (h2 : e ≤ 5) (h3 : 1 ≤ m) (h4 : m ≤ 10) :
    Calls Tryz.prog 112 #[.agg #[.int .i64 e, .int .i64 m, .bool s]] w fun x w' => x = .returned (.int .i64 (pw (biasv e + m))) ∧ Below w.heap.size w w' := by
  obtain ⟨c0, c1, c2, BB⟩ := box3 w (.int .i64 e) (.int .i64 m) (.bool s) 78
  have b := biasv_bd h1 h2
  have q := pw_wrap (biasv e + m) (by omega)
  have i1 : IntKind.i64.wrap (biasv e + m) = biasv e + m := IntWalk.i64_in _ (by omega)
  go_enter Tryz.func112, Tryz.ntmps112
  go_wp2
  have k_c0 := cell_regrown c0
  have k_c1 := cell_regrown c1
  have k_c2 := cell_regrown c2
  refine wp_region_quiet_below (by kernel_rfl) (by kernel_rfl) ?_
  repeat (first | go_big_quiet_step ((first | (go_at_call 130; exact Calls.regrown_of (bias_b _ _ _ _ h1 h2)))) | quiet_step ((first | (go_at_call 130; exact Calls.regrown_of (bias_b _ _ _ _ h1 h2)))))
  refine wpQuiet_nil ?_
  intro W hw'
  have B := below_regrown' hw'
  clear hw' k_c0 k_c1 k_c2
  replace BB := bon BB B
  replace c0 := cell_below B c0
  replace c1 := cell_below B c1
  replace c2 := cell_below B c2
  go_wp2
  go_ret
  exact ⟨ret_int (pw_wrap _ (by omega)), BB⟩

set_option maxRecDepth 100000 in
theorem len64_b (x : Int) (w : World) (h0 : 0 ≤ x) (h1 : x < 1073741824) :
    Calls Tryz.prog 141 #[.int .u64 x] w fun e w' => e = .returned (.int .i64 (blen x)) ∧ Below w.heap.size w w' := by
  go_enter Tryz.func141, Tryz.ntmps141
  go_wp2
  all_goals go_ret
  all_goals refine ⟨ret_int ?_, Below.refl _ _⟩
  all_goals rw [len8tab_get, blen_tab]
  · have s1 := blen_16 x (by assumption)
    have s2 := blen_8 (x / 65536) (by assumption)
    have bd := blen_bd30 (x / 65536 / 256) (by omega) (by omega)
    rw [IntWalk.wrap64_in (blen (x / 65536 / 256)) (by omega), IntWalk.wrap64_in _ (by omega)]; omega
  · have s1 := blen_16 x (by assumption)
    have bd := blen_bd30 (x / 65536) (by omega) (by omega)
    rw [IntWalk.wrap64_in (blen (x / 65536)) (by omega), IntWalk.wrap64_in _ (by omega)]; omega
  · have s1 := blen_8 x (by assumption)
    have bd := blen_bd30 (x / 256) (by omega) (by omega)
    rw [IntWalk.wrap64_in (blen (x / 256)) (by omega), IntWalk.wrap64_in _ (by omega)]; omega
  · have bd := blen_bd30 x (by omega) (by omega)
    rw [IntWalk.wrap64_in (blen x) (by omega), IntWalk.wrap64_in _ (by omega)]

theorem len_b (x : Int) (w : World) (h0 : 0 ≤ x) (h1 : x < 1073741824) :
    Calls Tryz.prog 137 #[.int .u64 x] w fun e w' => e = .returned (.int .i64 (blen x)) ∧ Below w.heap.size w w' := by
  have BB := Below.refl w.heap.size w
  go_enter Tryz.func137, Tryz.ntmps137
  go_wp2_with (first | (go_at_call 141; refine (len64_b _ _ (by omega) (by omega)).mono ?_; rintro _ _ ⟨rfl, B⟩; replace BB := bon BB B))
  go_ret
  exact ⟨rfl, BB⟩

theorem exponentof_b (e m x : Int) (s : Bool) (w : World) (h1 : 2 ≤ e) (h2 : e ≤ 5) (h3 : 0 ≤ x) (h4 : x < 536870912) :
    Calls Tryz.prog 131 #[.agg #[.int .i64 e, .int .i64 m, .bool s], .int .i64 x] w fun y w' => y = .returned (.int .i64 (blen x - 17 + biasv e)) ∧ Below w.heap.size w w' := by
  obtain ⟨c0, c1, c2, BB⟩ := box3 w (.int .i64 e) (.int .i64 m) (.bool s) 78
  have b := biasv_bd h1 h2
  have b2 := blen_bd x h3 h4
  have b3 : blen 65536 = 17 := by decide
  have i0 : IntKind.u64.wrap x = x := by rw [IntKind.wrap_u64]; omega
  have i1 : IntKind.i64.wrap (blen x - 17) = blen x - 17 := IntWalk.i64_in _ (by omega)
  have i2 : IntKind.i64.wrap (blen x - 17 + biasv e) = blen x - 17 + biasv e := IntWalk.i64_in _ (by omega)
  go_enter Tryz.func131, Tryz.ntmps131
  go_wp2
  have k_c0 := cell_regrown c0
  have k_c1 := cell_regrown c1
  have k_c2 := cell_regrown c2
  refine wp_region_quiet_below (by kernel_rfl) (by kernel_rfl) ?_
  repeat (first | go_big_quiet_step ((first | (go_at_call 137; exact Calls.regrown_of (len_b _ _ (by omega) (by omega))) | (go_at_call 130; exact Calls.regrown_of (bias_b _ _ _ _ h1 h2)))) | quiet_step ((first | (go_at_call 137; exact Calls.regrown_of (len_b _ _ (by omega) (by omega))) | (go_at_call 130; exact Calls.regrown_of (bias_b _ _ _ _ h1 h2)))))
  refine wpQuiet_nil ?_
  intro W hw'
  have B := below_regrown' hw'
  clear hw' k_c0 k_c1 k_c2
  replace BB := bon BB B
  replace c0 := cell_below B c0
  replace c1 := cell_below B c1
  replace c2 := cell_below B c2
  go_wp2
  go_ret
  exact ⟨rfl, BB⟩

end Go.Proofs.YtnhnbblplnhmlaaGreatDoor

/- What the calls of package minifloat return, second part: the patterns. -/
namespace Go.Proofs.YtnhnbblplnhmlaaGreatDoor
open Go.RowKit Go.Sort

/-- n/d rounded to the nearest integer, halves to the even one. -/
def dte (n d : Int) : Int := if d < 2 * (n % d) ∨ (2 * (n % d) = d ∧ (n / d) % 2 = 1) then n / d + 1 else n / d

theorem dte_b (n d : Int) (w : World) (h0 : 0 ≤ n) (h1 : n ≤ 1152921504606846976) (h2 : 1 ≤ d) (h3 : d ≤ 1152921504606846976) :
    Calls Tryz.prog 132 #[.int .i64 n, .int .i64 d] w fun x w' => x = .returned (.int .i64 (dte n d)) ∧ Below w.heap.size w w' := by
  have r0 := Int.emod_nonneg n (b := d) (by omega)
  have r1 := Int.emod_lt_of_pos n (b := d) (by omega)
  have q0 : 0 ≤ n / d := Int.ediv_nonneg (by omega) (by omega)
  have q1 : n / d ≤ n := Int.ediv_le_self _ h0
  go_enter Tryz.func132, Tryz.ntmps132
  go_wp2_with fail
  go_quiet (fail)
  go_wp2_with fail
  all_goals go_ret
  all_goals exact ⟨ret_int (by unfold dte; grind), (Drew.more (Drew.refl w) _).below⟩

/-- The exponent field of the unit with which x is rounded. -/
def exq (e x : Int) : Int := if 1 < blen x - 17 + biasv e then blen x - 17 + biasv e else 1
theorem exq_bd (e x : Int) (h1 : 2 ≤ e) (h2 : e ≤ 5) (h3 : 0 ≤ x) (h4 : x < 536870912) : 1 ≤ exq e x ∧ exq e x ≤ 27 := by
  have := blen_bd x h3 h4
  have := biasv_bd h1 h2
  unfold exq; split <;> omega
def encm (e m x : Int) : Int :=
  if (exq e x - 1) * pw m + dte (x * pw (biasv e + m)) (65536 * pw (exq e x)) ≤ (pw e - 1) * pw m - 1 then
    (exq e x - 1) * pw m + dte (x * pw (biasv e + m)) (65536 * pw (exq e x)) else (pw e - 1) * pw m - 1

theorem dte_bd (n d : Int) (h0 : 0 ≤ n) (h2 : 1 ≤ d) : 0 ≤ dte n d ∧ dte n d ≤ n + 1 := by
  have q0 : 0 ≤ n / d := Int.ediv_nonneg (by omega) (by omega)
  have q1 : n / d ≤ n := Int.ediv_le_self _ h0
  unfold dte; split <;> omega
theorem mul_bd (a b A B : Int) (ha : 0 ≤ a) (ha' : a ≤ A) (hb : 0 ≤ b) (hb' : b ≤ B) : 0 ≤ a * b ∧ a * b ≤ A * B :=
  ⟨Int.mul_nonneg ha hb, Int.mul_le_mul ha' hb' hb (by omega)⟩

theorem encm_k (e m x k : Int) (s : Bool) (w : World) (h1 : 2 ≤ e) (h2 : e ≤ 5) (h3 : 1 ≤ m) (h4 : m ≤ 10) (h5 : 0 ≤ x) (h6 : x < 536870912) (hk : exq e x = k)
    (hk' : (1 < blen x - 17 + biasv e ∧ k = blen x - 17 + biasv e) ∨ (blen x - 17 + biasv e ≤ 1 ∧ k = 1)) :
    Calls Tryz.prog 114 #[.agg #[.int .i64 e, .int .i64 m, .bool s], .int .i64 x] w fun y w' => y = .returned (.int .i64 (encm e m x)) ∧ Below w.heap.size w w' := by
  obtain ⟨c0, c1, c2, BB⟩ := box3 w (.int .i64 e) (.int .i64 m) (.bool s) 78
  have b := biasv_bd h1 h2
  have bk := exq_bd e x h1 h2 h5 h6
  rw [hk] at bk
  have p1 := pw_pos (biasv e + m)
  have p2 : pw (biasv e + m) ≤ 33554432 := pw_le _ 25 (by omega)
  have p3 := pw_pos k
  have p4 : pw k ≤ 134217728 := pw_le _ 27 (by omega)
  have p5 := pw_pos m
  have p6 : pw m ≤ 1024 := pw_le _ 10 (by omega)
  have p7 := pw_pos e
  have p8 : pw e ≤ 32 := pw_le _ 5 (by omega)
  have m1 := mul_bd x (pw (biasv e + m)) 536870912 33554432 (by omega) (by omega) (by omega) (by omega)
  have m2 := mul_bd (k - 1) (pw m) 27 1024 (by omega) (by omega) (by omega) (by omega)
  have m3 := mul_bd (pw e - 1) (pw m) 32 1024 (by omega) (by omega) (by omega) (by omega)
  have d1 := dte_bd (x * pw (biasv e + m)) (65536 * pw k) (by omega) (by omega)
  have i1 : IntKind.i64.wrap (x * pw (biasv e + m)) = x * pw (biasv e + m) := IntWalk.i64_in _ (by omega)
  have i2 := pw_i64_mul (k - 1) m (by omega) (by omega)
  have i3 := pw_i64_mul (pw e - 1) m (by omega) (by omega)
  have i4 : IntKind.i64.wrap ((pw e - 1) * pw m - 1) = (pw e - 1) * pw m - 1 := IntWalk.i64_in _ (by omega)
  have HK : Hid (encm e m x = if (k - 1) * pw m + dte (x * pw (biasv e + m)) (65536 * pw k) ≤ (pw e - 1) * pw m - 1 then (k - 1) * pw m + dte (x * pw (biasv e + m)) (65536 * pw k) else (pw e - 1) * pw m - 1) := Lib.hid (by unfold encm; rw [hk])
  clear hk
  rcases hk' with ⟨hk1, hk2⟩ | ⟨hk1, hk2⟩
  all_goals
    subst hk2
    go_enter Tryz.func114, Tryz.ntmps114
    go_wp2_with (first | (go_at_call 131; refine (exponentof_b _ _ _ _ _ h1 h2 h5 h6).mono ?_; rintro _ _ ⟨rfl, B⟩; replace BB := bon BB B; replace c0 := cell_below B c0; replace c1 := cell_below B c1; replace c2 := cell_below B c2) | (go_at_call 112; refine (manscale_b _ _ _ _ h1 h2 h3 h4).mono ?_; rintro _ _ ⟨rfl, B⟩; replace BB := bon BB B; replace c0 := cell_below B c0; replace c1 := cell_below B c1; replace c2 := cell_below B c2) | (go_at_call 111; refine (expscale_b _ _ (by omega) (by omega)).mono ?_; rintro _ _ ⟨rfl, B⟩; replace BB := bon BB B; replace c0 := cell_below B c0; replace c1 := cell_below B c1; replace c2 := cell_below B c2) | (go_at_call 132; refine (dte_b _ _ _ (by omega) (by omega) (by omega) (by omega)).mono ?_; rintro _ _ ⟨rfl, B⟩; replace BB := bon BB B; replace c0 := cell_below B c0; replace c1 := cell_below B c1; replace c2 := cell_below B c2))
    have k_c0 := cell_regrown c0
    have k_c1 := cell_regrown c1
    have k_c2 := cell_regrown c2
    refine wp_region_quiet_below (by kernel_rfl) (by kernel_rfl) ?_
    repeat (first | go_big_quiet_step ((first | (go_at_call 110; exact Calls.regrown_of (special_b _ _ _ _ h1 h2)))) | quiet_step ((first | (go_at_call 110; exact Calls.regrown_of (special_b _ _ _ _ h1 h2)))))
    refine wpQuiet_nil ?_
    intro W hw'
    have B := below_regrown' hw'
    clear hw' k_c0 k_c1 k_c2
    replace BB := bon BB B
    replace c0 := cell_below B c0
    replace c1 := cell_below B c1
    replace c2 := cell_below B c2
    go_wp2
    all_goals go_ret
    all_goals refine ⟨ret_int ?_, BB⟩
    all_goals (rw [HK.out]; split <;> omega)

theorem encm_b (e m x : Int) (s : Bool) (w : World) (h1 : 2 ≤ e) (h2 : e ≤ 5) (h3 : 1 ≤ m) (h4 : m ≤ 10) (h5 : 0 ≤ x) (h6 : x < 536870912) :
    Calls Tryz.prog 114 #[.agg #[.int .i64 e, .int .i64 m, .bool s], .int .i64 x] w fun y w' => y = .returned (.int .i64 (encm e m x)) ∧ Below w.heap.size w w' :=
  encm_k e m x (exq e x) s w h1 h2 h3 h4 h5 h6 rfl (by unfold exq; split <;> omega)

theorem bits_b (e m : Int) (s : Bool) (w : World) (h1 : 2 ≤ e) (h2 : e ≤ 5) (h3 : 1 ≤ m) (h4 : m ≤ 10) :
    Calls Tryz.prog 129 #[.agg #[.int .i64 e, .int .i64 m, .bool s]] w fun x w' => x = .returned (.int .i64 (e + m + sbit s)) ∧ Below w.heap.size w w' := by
  obtain ⟨c0, c1, c2, BB⟩ := box3 w (.int .i64 e) (.int .i64 m) (.bool s) 78
  cases s
  all_goals
    go_enter Tryz.func129, Tryz.ntmps129
    go_wp2_with (first | (go_at_call 113; refine (valid_yes _ _ _ _ h1 h2 h3 h4).mono ?_; rintro _ _ ⟨rfl, B⟩; replace BB := bon BB B; replace c0 := cell_below B c0; replace c1 := cell_below B c1; replace c2 := cell_below B c2))
    go_ret
    exact ⟨ret_int (by simp [sbit] <;> omega), BB⟩

theorem bits_no (e m : Int) (s : Bool) (w : World) (h : ¬ (2 ≤ e ∧ e ≤ 5 ∧ 1 ≤ m ∧ m ≤ 10)) :
    Calls Tryz.prog 129 #[.agg #[.int .i64 e, .int .i64 m, .bool s]] w fun x w' => x = .returned (.int .i64 0) ∧ Below w.heap.size w w' := by
  obtain ⟨c0, c1, c2, BB⟩ := box3 w (.int .i64 e) (.int .i64 m) (.bool s) 78
  have H := Lib.hid h
  clear h
  go_enter Tryz.func129, Tryz.ntmps129
  go_wp2_with (first | (go_at_call 113; refine (valid_no _ _ _ _ H.out).mono ?_; rintro _ _ ⟨rfl, B⟩; replace BB := bon BB B; replace c0 := cell_below B c0; replace c1 := cell_below B c1; replace c2 := cell_below B c2))
  go_ret
  exact ⟨rfl, BB⟩

theorem half_b (w : World) :
    Calls Tryz.prog 51 #[] w fun x w' => x = .returned (.agg #[.int .i64 5, .int .i64 10, .bool true]) ∧ Below w.heap.size w w' := by
  go_enter Tryz.func51, Tryz.ntmps51
  go_wp2
  exact bodyPost_ret (v := .agg #[.int .i64 5, .int .i64 10, .bool true]) (by simp [results, Tryz.results51, go_sem]) rfl ⟨rfl, (Below.refl _ _).alloc (Nat.le_refl _) _⟩

/-! ### a pattern's fields -/
def pexp (e m b : Int) : Int := b / pw m % pw e
def pman (m b : Int) : Int := b % pw m
def pneg (e m b : Int) : Bool := decide (pw (e + m) ≤ b)

/-- The worlds of split: the format in a block of its own, behind it the result's. -/
def splitW (w : World) (e m : Int) (s : Bool) : World := (w.alloc (.cells #[.int .i64 e, .int .i64 m, .bool s] 78)).alloc (.cells #[.bool false, .int .i64 0, .int .i64 0] 119)
theorem splitW_facts (w : World) (e m : Int) (s : Bool) :
    Below w.heap.size w (splitW w e m s) ∧ (splitW w e m s).cell? ⟨w.heap.size, 0, none⟩ = some (.int .i64 e) ∧ (splitW w e m s).cell? ⟨w.heap.size, 1, none⟩ = some (.int .i64 m) ∧ (splitW w e m s).cell? ⟨w.heap.size, 2, none⟩ = some (.bool s) ∧
    (splitW w e m s).cell? ⟨w.heap.size + 1, 0, none⟩ = some (.bool false) ∧ (splitW w e m s).cell? ⟨w.heap.size + 1, 1, none⟩ = some (.int .i64 0) ∧ (splitW w e m s).cell? ⟨w.heap.size + 1, 2, none⟩ = some (.int .i64 0) ∧
    (splitW w e m s).frozen? ⟨w.heap.size + 1, 0, none⟩ = false ∧ (splitW w e m s).frozen? ⟨w.heap.size + 1, 1, none⟩ = false ∧ (splitW w e m s).frozen? ⟨w.heap.size + 1, 2, none⟩ = false := by
  unfold splitW
  refine ⟨((Below.refl _ _).alloc (Nat.le_refl _) _).alloc (by simp) _, ?_, ?_, ?_, ?_, ?_, ?_, ?_, ?_, ?_⟩ <;> simp

theorem split_no (e m b : Int) (s : Bool) (w : World) (h : ¬ ((2 ≤ e ∧ e ≤ 5 ∧ 1 ≤ m ∧ m ≤ 10) ∧ 0 ≤ b ∧ b < pw (e + m + sbit s))) :
    Calls Tryz.prog 109 #[.agg #[.int .i64 e, .int .i64 m, .bool s], .int .i64 b] w fun x w' => x = .returned (.tuple #[.agg #[.bool false, .int .i64 0, .int .i64 0], .bool false]) ∧ Below w.heap.size w w' := by
  obtain ⟨BB, c0, c1, c2, d0, d1, d2, f0, f1, f2⟩ := splitW_facts w e m s
  unfold splitW at *
  have H := Lib.hid h
  clear h
  by_cases hv : 2 ≤ e ∧ e ≤ 5 ∧ 1 ≤ m ∧ m ≤ 10
  · obtain ⟨h1, h2, h3, h4⟩ := hv
    have sb := sbit_bd s
    have i1 := pw_i64 (e + m + sbit s) (by omega)
    have hb : b < 0 ∨ (0 ≤ b ∧ pw (e + m + sbit s) ≤ b) := by have := H.out; omega
    rcases hb with hb | ⟨hb1, hb2⟩
    all_goals
      go_enter Tryz.func109, Tryz.ntmps109
      go_wp2_with (first | (go_at_call 113; refine (valid_yes _ _ _ _ h1 h2 h3 h4).mono ?_; rintro _ _ ⟨rfl, B⟩; replace BB := bon BB B; replace f0 := frozen_below B d0 f0; replace f1 := frozen_below B d1 f1; replace f2 := frozen_below B d2 f2; replace c0 := cell_below B c0; replace c1 := cell_below B c1; replace c2 := cell_below B c2; replace d0 := cell_below B d0; replace d1 := cell_below B d1; replace d2 := cell_below B d2) | (go_at_call 129; refine (bits_b _ _ _ _ h1 h2 h3 h4).mono ?_; rintro _ _ ⟨rfl, B⟩; replace BB := bon BB B; replace f0 := frozen_below B d0 f0; replace f1 := frozen_below B d1 f1; replace f2 := frozen_below B d2 f2; replace c0 := cell_below B c0; replace c1 := cell_below B c1; replace c2 := cell_below B c2; replace d0 := cell_below B d0; replace d1 := cell_below B d1; replace d2 := cell_below B d2))
      exact bodyPost_ret (v := .tuple #[.agg #[.bool false, .int .i64 0, .int .i64 0], .bool false]) (by simp [results, Tryz.results109, go_sem, *]) rfl ⟨rfl, ((BB.setCell (by simp) _).setCell (by simp) _).setCell (by simp) _⟩
  · go_enter Tryz.func109, Tryz.ntmps109
    go_wp2_with (first | (go_at_call 113; refine (valid_no _ _ _ _ hv).mono ?_; rintro _ _ ⟨rfl, B⟩; replace BB := bon BB B; replace f0 := frozen_below B d0 f0; replace f1 := frozen_below B d1 f1; replace f2 := frozen_below B d2 f2; replace c0 := cell_below B c0; replace c1 := cell_below B c1; replace c2 := cell_below B c2; replace d0 := cell_below B d0; replace d1 := cell_below B d1; replace d2 := cell_below B d2))
    exact bodyPost_ret (v := .tuple #[.agg #[.bool false, .int .i64 0, .int .i64 0], .bool false]) (by simp [results, Tryz.results109, go_sem, *]) rfl ⟨rfl, ((BB.setCell (by simp) _).setCell (by simp) _).setCell (by simp) _⟩

set_option maxRecDepth 100000 in
theorem split_yes (e m b : Int) (s : Bool) (w : World) (h1 : 2 ≤ e) (h2 : e ≤ 5) (h3 : 1 ≤ m) (h4 : m ≤ 10) (h5 : 0 ≤ b) (h6 : b < pw (e + m + sbit s)) :
    Calls Tryz.prog 109 #[.agg #[.int .i64 e, .int .i64 m, .bool s], .int .i64 b] w fun x w' => x = .returned (.tuple #[.agg #[.bool (pneg e m b), .int .i64 (pexp e m b), .int .i64 (pman m b)], .bool true]) ∧ Below w.heap.size w w' := by
  obtain ⟨BB, c0, c1, c2, d0, d1, d2, f0, f1, f2⟩ := splitW_facts w e m s
  unfold splitW at *
  have sb := sbit_bd s
  have p1 := pw_pos (e + m + sbit s)
  have p2 : pw (e + m + sbit s) ≤ 65536 := pw_le _ 16 (by omega)
  have i1 := pw_i64 (e + m + sbit s) (by omega)
  have i2 := pw_i64 m (by omega)
  have p3 := pw_pos m
  have p4 : pw m ≤ 1024 := pw_le _ 10 (by omega)
  have i3 : IntKind.i64.wrap (pw m - 1) = pw m - 1 := IntWalk.i64_in _ (by omega)
  have a1 := and_pw b m (by omega) (by omega)
  have a2 := and_pw (b / 2 ^ m.toNat) e (by omega) (by omega)
  go_enter Tryz.func109, Tryz.ntmps109
  go_wp2_with (first | (go_at_call 113; refine (valid_yes _ _ _ _ h1 h2 h3 h4).mono ?_; rintro _ _ ⟨rfl, B⟩; replace BB := bon BB B; replace f0 := frozen_below B d0 f0; replace f1 := frozen_below B d1 f1; replace f2 := frozen_below B d2 f2; replace c0 := cell_below B c0; replace c1 := cell_below B c1; replace c2 := cell_below B c2; replace d0 := cell_below B d0; replace d1 := cell_below B d1; replace d2 := cell_below B d2) | (go_at_call 129; refine (bits_b _ _ _ _ h1 h2 h3 h4).mono ?_; rintro _ _ ⟨rfl, B⟩; replace BB := bon BB B; replace f0 := frozen_below B d0 f0; replace f1 := frozen_below B d1 f1; replace f2 := frozen_below B d2 f2; replace c0 := cell_below B c0; replace c1 := cell_below B c1; replace c2 := cell_below B c2; replace d0 := cell_below B d0; replace d1 := cell_below B d1; replace d2 := cell_below B d2))
  have k_c0 := cell_regrown c0
  have k_c1 := cell_regrown c1
  have k_c2 := cell_regrown c2
  have k_d0 := cell_regrown d0
  have k_d1 := cell_regrown d1
  have k_d2 := cell_regrown d2
  refine wp_region_tail (n := 18) (by kernel_rfl) (by kernel_rfl) ?_
  simp only [List.take_succ_cons, List.take_zero, List.drop_succ_cons, List.drop_zero]
  repeat (first | go_big_quiet_step ((first | (go_at_call 115; exact Calls.regrown_of (signbit_b _ _ _ _ h1 h2 h3 h4)) | (go_at_call 110; exact Calls.regrown_of (special_b _ _ _ _ h1 h2)))) | quiet_step ((first | (go_at_call 115; exact Calls.regrown_of (signbit_b _ _ _ _ h1 h2 h3 h4)) | (go_at_call 110; exact Calls.regrown_of (special_b _ _ _ _ h1 h2)))))
  refine wpQuiet_nil ?_
  intro W hw'
  have B := below_regrown' hw'
  clear hw' k_c0 k_c1 k_c2 k_d0 k_d1 k_d2
  replace BB := bon BB B
  replace f0 := frozen_below B d0 f0
  replace f1 := frozen_below B d1 f1
  replace f2 := frozen_below B d2 f2
  replace c0 := cell_below B c0
  replace c1 := cell_below B c1
  replace c2 := cell_below B c2
  replace d0 := cell_below B d0
  replace d1 := cell_below B d1
  replace d2 := cell_below B d2
  go_wp2
  exact bodyPost_ret (v := .tuple #[.agg #[.bool (pneg e m b), .int .i64 (pexp e m b), .int .i64 (pman m b)], .bool true]) (by simp [results, Tryz.results109, go_sem, pneg, pexp, pman, *]; rfl) rfl ⟨rfl, ((BB.setCell (by simp) _).setCell (by simp) _).setCell (by simp) _⟩

/-! ### Decode -/
def decu (e m E M : Int) : Int := sat (rda ((if E = 0 then M else M + pw m) * (65536 * pw (if 1 < E then E else 1))) (pw (biasv e + m)))
def decm (e m E M : Int) : Int := if E = pw e - 1 then (if M = 0 then 536870911 else 0) else decu e m E M
def decv (e m b : Int) : Int := if pneg e m b then -decm e m (pexp e m b) (pman m b) else decm e m (pexp e m b) (pman m b)

theorem decode_no (e m b : Int) (s : Bool) (w : World) (h : ¬ ((2 ≤ e ∧ e ≤ 5 ∧ 1 ≤ m ∧ m ≤ 10) ∧ 0 ≤ b ∧ b < pw (e + m + sbit s))) :
    Calls Tryz.prog 90 #[.agg #[.int .i64 e, .int .i64 m, .bool s], .int .i64 b] w fun x w' => x = .returned (.int .i64 0) ∧ Below w.heap.size w w' := by
  obtain ⟨c0, c1, c2, BB⟩ := box3 w (.int .i64 e) (.int .i64 m) (.bool s) 78
  have H := Lib.hid h
  clear h
  go_enter Tryz.func90, Tryz.ntmps90
  go_wp2_with (first | (go_at_call 109; refine (split_no _ _ _ _ _ H.out).mono ?_; rintro _ _ ⟨rfl, B⟩; replace BB := bon BB B; replace c0 := cell_below B c0; replace c1 := cell_below B c1; replace c2 := cell_below B c2))
  go_ret
  exact ⟨rfl, BB.alloc BB.size _⟩

end Go.Proofs.YtnhnbblplnhmlaaGreatDoor

/- What Decode, Encode and Quantize of package minifloat return. -/
namespace Go.Proofs.YtnhnbblplnhmlaaGreatDoor
open Go.RowKit Go.Sort

theorem pexp_bd (e m b : Int) : 0 ≤ pexp e m b ∧ pexp e m b < pw e := by
  have := pw_pos e
  exact ⟨Int.emod_nonneg _ (by omega), Int.emod_lt_of_pos _ (by omega)⟩
theorem pman_bd (m b : Int) : 0 ≤ pman m b ∧ pman m b < pw m := by
  have := pw_pos m
  exact ⟨Int.emod_nonneg _ (by omega), Int.emod_lt_of_pos _ (by omega)⟩
theorem decu_bd (e m E M : Int) : -536870911 ≤ decu e m E M ∧ decu e m E M ≤ 536870911 := sat_bd _

set_option maxRecDepth 100000 in
set_option maxHeartbeats 800000 in
theorem decode_yes (e m b : Int) (s : Bool) (w : World) (h1 : 2 ≤ e) (h2 : e ≤ 5) (h3 : 1 ≤ m) (h4 : m ≤ 10) (h5 : 0 ≤ b) (h6 : b < pw (e + m + sbit s)) :
    Calls Tryz.prog 90 #[.agg #[.int .i64 e, .int .i64 m, .bool s], .int .i64 b] w fun x w' => x = .returned (.int .i64 (decv e m b)) ∧ Below w.heap.size w w' := by
  obtain ⟨c0, c1, c2, BB⟩ := box3 w (.int .i64 e) (.int .i64 m) (.bool s) 78
  have bE := pexp_bd e m b
  have bM := pman_bd m b
  have HV : Hid (decv e m b = if pneg e m b then -decm e m (pexp e m b) (pman m b) else decm e m (pexp e m b) (pman m b)) := Lib.hid rfl
  have hs := split_yes e m b s
  generalize decv e m b = D at *
  generalize pexp e m b = E at *
  generalize pman m b = M at *
  generalize pneg e m b = G at *
  have p1 := pw_pos m
  have p2 : pw m ≤ 1024 := pw_le _ 10 (by omega)
  have p3 : 4 ≤ pw e := pw_le 2 e (by omega)
  have p4 : pw e ≤ 32 := pw_le _ 5 (by omega)
  have bb := biasv_bd h1 h2
  have i2 := pw_i64 m (by omega)
  have o1 : bits .or .i64 M (pw m) = pw m + M := by rw [or_comm']; exact or_high M m (by omega) bM.1 bM.2
  have cases : (E = pw e - 1 ∧ M ≠ 0) ∨ (E = pw e - 1 ∧ M = 0) ∨ (E ≠ pw e - 1 ∧ E = 0) ∨ (E ≠ pw e - 1 ∧ E = 1) ∨ (E ≠ pw e - 1 ∧ 1 < E) := by omega
  rcases cases with ⟨e1, e2⟩ | ⟨e1, e2⟩ | ⟨e1, e2⟩ | ⟨e1, e2⟩ | ⟨e1, e2⟩
  · have HD : Hid (decm e m E M = 0) := Lib.hid (by unfold decm; rw [if_pos e1, if_neg e2])
    have t1 : (E == pw e - 1) = true := by simpa using e1
    have t3 : (M != 0) = true := by simpa using e2
    clear e1 e2
    go_enter Tryz.func90, Tryz.ntmps90
    go_wp2_with (go_at_call 109; refine (hs _ h1 h2 h3 h4 h5 h6).mono ?_; rintro _ _ ⟨rfl, B⟩; replace BB := bon BB B; replace c0 := cell_below B c0; replace c1 := cell_below B c1; replace c2 := cell_below B c2)
    obtain ⟨B, q0, q1, q2, BB⟩ := box3_on BB (.bool G) (.int .i64 E) (.int .i64 M) 119
    replace c0 := cell_below B c0; replace c1 := cell_below B c1; replace c2 := cell_below B c2
    have k_c0 := cell_regrown c0
    have k_c1 := cell_regrown c1
    have k_c2 := cell_regrown c2
    have k_q0 := cell_regrown q0
    have k_q1 := cell_regrown q1
    have k_q2 := cell_regrown q2
    refine wp_region_quiet_below (by kernel_rfl) (by kernel_rfl) ?_
    repeat (first | go_big_quiet_step ((first | (go_at_call 110; exact Calls.regrown_of (special_b _ _ _ _ h1 h2)))) | quiet_step ((first | (go_at_call 110; exact Calls.regrown_of (special_b _ _ _ _ h1 h2)))))
    refine wpQuiet_nil ?_
    intro W hw'
    have B := below_regrown' hw'
    clear hw' k_c0 k_c1 k_c2 k_q0 k_q1 k_q2
    replace BB := bon BB B
    replace c0 := cell_below B c0
    replace c1 := cell_below B c1
    replace c2 := cell_below B c2
    replace q0 := cell_below B q0
    replace q1 := cell_below B q1
    replace q2 := cell_below B q2
    go_wp2
    go_ret
    exact ⟨ret_int (by rw [HV.out, HD.out]; simp), BB⟩
  · have HD : Hid (decm e m E M = 536870911) := Lib.hid (by unfold decm; rw [if_pos e1, if_pos e2])
    have t1 : (E == pw e - 1) = true := by simpa using e1
    have t3 : (M != 0) = false := by simpa using e2
    clear e1 e2
    go_enter Tryz.func90, Tryz.ntmps90
    go_wp2_with (go_at_call 109; refine (hs _ h1 h2 h3 h4 h5 h6).mono ?_; rintro _ _ ⟨rfl, B⟩; replace BB := bon BB B; replace c0 := cell_below B c0; replace c1 := cell_below B c1; replace c2 := cell_below B c2)
    obtain ⟨B, q0, q1, q2, BB⟩ := box3_on BB (.bool G) (.int .i64 E) (.int .i64 M) 119
    replace c0 := cell_below B c0; replace c1 := cell_below B c1; replace c2 := cell_below B c2
    have k_c0 := cell_regrown c0
    have k_c1 := cell_regrown c1
    have k_c2 := cell_regrown c2
    have k_q0 := cell_regrown q0
    have k_q1 := cell_regrown q1
    have k_q2 := cell_regrown q2
    refine wp_region_quiet_below (by kernel_rfl) (by kernel_rfl) ?_
    repeat (first | go_big_quiet_step ((first | (go_at_call 110; exact Calls.regrown_of (special_b _ _ _ _ h1 h2)))) | quiet_step ((first | (go_at_call 110; exact Calls.regrown_of (special_b _ _ _ _ h1 h2)))))
    refine wpQuiet_nil ?_
    intro W hw'
    have B := below_regrown' hw'
    clear hw' k_c0 k_c1 k_c2 k_q0 k_q1 k_q2
    replace BB := bon BB B
    replace c0 := cell_below B c0
    replace c1 := cell_below B c1
    replace c2 := cell_below B c2
    replace q0 := cell_below B q0
    replace q1 := cell_below B q1
    replace q2 := cell_below B q2
    go_wp2
    have k_c0 := cell_regrown c0
    have k_c1 := cell_regrown c1
    have k_c2 := cell_regrown c2
    have k_q0 := cell_regrown q0
    have k_q1 := cell_regrown q1
    have k_q2 := cell_regrown q2
    refine wp_region_quiet_below (by kernel_rfl) (by kernel_rfl) ?_
    repeat (first | go_big_quiet_step ((first | (go_at_call 110; exact Calls.regrown_of (special_b _ _ _ _ h1 h2)))) | quiet_step ((first | (go_at_call 110; exact Calls.regrown_of (special_b _ _ _ _ h1 h2)))))
    refine wpQuiet_nil ?_
    intro W hw'
    have B := below_regrown' hw'
    clear hw' k_c0 k_c1 k_c2 k_q0 k_q1 k_q2
    replace BB := bon BB B
    replace c0 := cell_below B c0
    replace c1 := cell_below B c1
    replace c2 := cell_below B c2
    replace q0 := cell_below B q0
    replace q1 := cell_below B q1
    replace q2 := cell_below B q2
    go_wp2
    all_goals go_ret
    all_goals exact ⟨ret_int (by rw [HV.out, HD.out]; simp [*]), BB⟩
  · have k1 := pw_pos 1
    have k2 : pw 1 ≤ 2147483648 := pw_le _ 31 (by omega)
    have m1 := mul_bd (M) (65536 * pw 1) 2048 140737488355328 (by omega) (by omega) (by omega) (by omega)
    have i5 : IntKind.i64.wrap ((M) * (65536 * pw 1)) = (M) * (65536 * pw 1) := IntWalk.i64_in _ (by omega)
    have bs := sat_bd (rda ((M) * (65536 * pw 1)) (pw (biasv e + m)))
    have HD : Hid (decm e m E M = sat (rda ((M) * (65536 * pw 1)) (pw (biasv e + m)))) := Lib.hid (by unfold decm decu; rw [if_neg e1, if_pos e2, if_neg (by omega)])
    have t1 : (E == pw e - 1) = false := by simpa using e1
    have t0 : (E != 0) = false := by simpa using e2
    have e3 : E ≤ 1 := by omega
    have e4 : (0 : Int) ≤ 1 ∧ (1 : Int) ≤ 40 := by omega
    clear e1 e2
    go_enter Tryz.func90, Tryz.ntmps90
    go_wp2_with (go_at_call 109; refine (hs _ h1 h2 h3 h4 h5 h6).mono ?_; rintro _ _ ⟨rfl, B⟩; replace BB := bon BB B; replace c0 := cell_below B c0; replace c1 := cell_below B c1; replace c2 := cell_below B c2)
    obtain ⟨B, q0, q1, q2, BB⟩ := box3_on BB (.bool G) (.int .i64 E) (.int .i64 M) 119
    replace c0 := cell_below B c0; replace c1 := cell_below B c1; replace c2 := cell_below B c2
    have k_c0 := cell_regrown c0
    have k_c1 := cell_regrown c1
    have k_c2 := cell_regrown c2
    have k_q0 := cell_regrown q0
    have k_q1 := cell_regrown q1
    have k_q2 := cell_regrown q2
    refine wp_region_quiet_below (by kernel_rfl) (by kernel_rfl) ?_
    repeat (first | go_big_quiet_step ((first | (go_at_call 110; exact Calls.regrown_of (special_b _ _ _ _ h1 h2)))) | quiet_step ((first | (go_at_call 110; exact Calls.regrown_of (special_b _ _ _ _ h1 h2)))))
    refine wpQuiet_nil ?_
    intro W hw'
    have B := below_regrown' hw'
    clear hw' k_c0 k_c1 k_c2 k_q0 k_q1 k_q2
    replace BB := bon BB B
    replace c0 := cell_below B c0
    replace c1 := cell_below B c1
    replace c2 := cell_below B c2
    replace q0 := cell_below B q0
    replace q1 := cell_below B q1
    replace q2 := cell_below B q2
    go_wp2
    have k_c0 := cell_regrown c0
    have k_c1 := cell_regrown c1
    have k_c2 := cell_regrown c2
    have k_q0 := cell_regrown q0
    have k_q1 := cell_regrown q1
    have k_q2 := cell_regrown q2
    refine wp_region_quiet_below (by kernel_rfl) (by kernel_rfl) ?_
    repeat (first | go_big_quiet_step ((first | (go_at_call 110; exact Calls.regrown_of (special_b _ _ _ _ h1 h2)))) | quiet_step ((first | (go_at_call 110; exact Calls.regrown_of (special_b _ _ _ _ h1 h2)))))
    refine wpQuiet_nil ?_
    intro W hw'
    have B := below_regrown' hw'
    clear hw' k_c0 k_c1 k_c2 k_q0 k_q1 k_q2
    replace BB := bon BB B
    replace c0 := cell_below B c0
    replace c1 := cell_below B c1
    replace c2 := cell_below B c2
    replace q0 := cell_below B q0
    replace q1 := cell_below B q1
    replace q2 := cell_below B q2
    go_wp2
    have k_c0 := cell_regrown c0
    have k_c1 := cell_regrown c1
    have k_c2 := cell_regrown c2
    have k_q0 := cell_regrown q0
    have k_q1 := cell_regrown q1
    have k_q2 := cell_regrown q2
    refine wp_region_quiet_below (by kernel_rfl) (by kernel_rfl) ?_
    repeat (first | go_big_quiet_step ((first | (go_at_call 111; exact Calls.regrown_of (expscale_b _ _ e4.1 e4.2)) | (go_at_call 112; exact Calls.regrown_of (manscale_b _ _ _ _ h1 h2 h3 h4)) | (go_at_call 93; exact Calls.regrown_of (rounddiv_b _ _ _)) | (go_at_call 52; exact Calls.regrown_of (saturate_b _ _)))) | quiet_step ((first | (go_at_call 111; exact Calls.regrown_of (expscale_b _ _ e4.1 e4.2)) | (go_at_call 112; exact Calls.regrown_of (manscale_b _ _ _ _ h1 h2 h3 h4)) | (go_at_call 93; exact Calls.regrown_of (rounddiv_b _ _ _)) | (go_at_call 52; exact Calls.regrown_of (saturate_b _ _)))))
    refine wpQuiet_nil ?_
    intro W hw'
    have B := below_regrown' hw'
    clear hw' k_c0 k_c1 k_c2 k_q0 k_q1 k_q2
    replace BB := bon BB B
    replace c0 := cell_below B c0
    replace c1 := cell_below B c1
    replace c2 := cell_below B c2
    replace q0 := cell_below B q0
    replace q1 := cell_below B q1
    replace q2 := cell_below B q2
    go_wp2
    all_goals go_ret
    all_goals exact ⟨ret_int (by rw [HV.out, HD.out]; simp [*]), BB⟩
  · have k1 := pw_pos 1
    have k2 : pw 1 ≤ 2147483648 := pw_le _ 31 (by omega)
    have m1 := mul_bd (pw m + M) (65536 * pw 1) 2048 140737488355328 (by omega) (by omega) (by omega) (by omega)
    have i5 : IntKind.i64.wrap ((pw m + M) * (65536 * pw 1)) = (pw m + M) * (65536 * pw 1) := IntWalk.i64_in _ (by omega)
    have bs := sat_bd (rda ((pw m + M) * (65536 * pw 1)) (pw (biasv e + m)))
    have HD : Hid (decm e m E M = sat (rda ((pw m + M) * (65536 * pw 1)) (pw (biasv e + m)))) := Lib.hid (by unfold decm decu; rw [if_neg e1, if_neg (by omega), if_neg (by omega), Int.add_comm M])
    have t1 : (E == pw e - 1) = false := by simpa using e1
    have t0 : (E != 0) = true := by simp; omega
    have e3 : E ≤ 1 := by omega
    have e4 : (0 : Int) ≤ 1 ∧ (1 : Int) ≤ 40 := by omega
    clear e1 e2
    go_enter Tryz.func90, Tryz.ntmps90
    go_wp2_with (go_at_call 109; refine (hs _ h1 h2 h3 h4 h5 h6).mono ?_; rintro _ _ ⟨rfl, B⟩; replace BB := bon BB B; replace c0 := cell_below B c0; replace c1 := cell_below B c1; replace c2 := cell_below B c2)
    obtain ⟨B, q0, q1, q2, BB⟩ := box3_on BB (.bool G) (.int .i64 E) (.int .i64 M) 119
    replace c0 := cell_below B c0; replace c1 := cell_below B c1; replace c2 := cell_below B c2
    have k_c0 := cell_regrown c0
    have k_c1 := cell_regrown c1
    have k_c2 := cell_regrown c2
    have k_q0 := cell_regrown q0
    have k_q1 := cell_regrown q1
    have k_q2 := cell_regrown q2
    refine wp_region_quiet_below (by kernel_rfl) (by kernel_rfl) ?_
    repeat (first | go_big_quiet_step ((first | (go_at_call 110; exact Calls.regrown_of (special_b _ _ _ _ h1 h2)))) | quiet_step ((first | (go_at_call 110; exact Calls.regrown_of (special_b _ _ _ _ h1 h2)))))
    refine wpQuiet_nil ?_
    intro W hw'
    have B := below_regrown' hw'
    clear hw' k_c0 k_c1 k_c2 k_q0 k_q1 k_q2
    replace BB := bon BB B
    replace c0 := cell_below B c0
    replace c1 := cell_below B c1
    replace c2 := cell_below B c2
    replace q0 := cell_below B q0
    replace q1 := cell_below B q1
    replace q2 := cell_below B q2
    go_wp2
    have k_c0 := cell_regrown c0
    have k_c1 := cell_regrown c1
    have k_c2 := cell_regrown c2
    have k_q0 := cell_regrown q0
    have k_q1 := cell_regrown q1
    have k_q2 := cell_regrown q2
    refine wp_region_quiet_below (by kernel_rfl) (by kernel_rfl) ?_
    repeat (first | go_big_quiet_step ((first | (go_at_call 110; exact Calls.regrown_of (special_b _ _ _ _ h1 h2)))) | quiet_step ((first | (go_at_call 110; exact Calls.regrown_of (special_b _ _ _ _ h1 h2)))))
    refine wpQuiet_nil ?_
    intro W hw'
    have B := below_regrown' hw'
    clear hw' k_c0 k_c1 k_c2 k_q0 k_q1 k_q2
    replace BB := bon BB B
    replace c0 := cell_below B c0
    replace c1 := cell_below B c1
    replace c2 := cell_below B c2
    replace q0 := cell_below B q0
    replace q1 := cell_below B q1
    replace q2 := cell_below B q2
    go_wp2
    have k_c0 := cell_regrown c0
    have k_c1 := cell_regrown c1
    have k_c2 := cell_regrown c2
    have k_q0 := cell_regrown q0
    have k_q1 := cell_regrown q1
    have k_q2 := cell_regrown q2
    refine wp_region_quiet_below (by kernel_rfl) (by kernel_rfl) ?_
    repeat (first | go_big_quiet_step ((first | (go_at_call 111; exact Calls.regrown_of (expscale_b _ _ e4.1 e4.2)) | (go_at_call 112; exact Calls.regrown_of (manscale_b _ _ _ _ h1 h2 h3 h4)) | (go_at_call 93; exact Calls.regrown_of (rounddiv_b _ _ _)) | (go_at_call 52; exact Calls.regrown_of (saturate_b _ _)))) | quiet_step ((first | (go_at_call 111; exact Calls.regrown_of (expscale_b _ _ e4.1 e4.2)) | (go_at_call 112; exact Calls.regrown_of (manscale_b _ _ _ _ h1 h2 h3 h4)) | (go_at_call 93; exact Calls.regrown_of (rounddiv_b _ _ _)) | (go_at_call 52; exact Calls.regrown_of (saturate_b _ _)))))
    refine wpQuiet_nil ?_
    intro W hw'
    have B := below_regrown' hw'
    clear hw' k_c0 k_c1 k_c2 k_q0 k_q1 k_q2
    replace BB := bon BB B
    replace c0 := cell_below B c0
    replace c1 := cell_below B c1
    replace c2 := cell_below B c2
    replace q0 := cell_below B q0
    replace q1 := cell_below B q1
    replace q2 := cell_below B q2
    go_wp2
    all_goals go_ret
    all_goals exact ⟨ret_int (by rw [HV.out, HD.out]; simp [*]), BB⟩
  · have k1 := pw_pos E
    have k2 : pw E ≤ 2147483648 := pw_le _ 31 (by omega)
    have m1 := mul_bd (pw m + M) (65536 * pw E) 2048 140737488355328 (by omega) (by omega) (by omega) (by omega)
    have i5 : IntKind.i64.wrap ((pw m + M) * (65536 * pw E)) = (pw m + M) * (65536 * pw E) := IntWalk.i64_in _ (by omega)
    have bs := sat_bd (rda ((pw m + M) * (65536 * pw E)) (pw (biasv e + m)))
    have HD : Hid (decm e m E M = sat (rda ((pw m + M) * (65536 * pw E)) (pw (biasv e + m)))) := Lib.hid (by unfold decm decu; rw [if_neg e1, if_neg (by omega), if_pos e2, Int.add_comm M])
    have t1 : (E == pw e - 1) = false := by simpa using e1
    have t0 : (E != 0) = true := by simp; omega
    have e3 : 1 < E := by omega
    have e4 : 0 ≤ E ∧ E ≤ 40 := by omega
    clear e1 e2
    go_enter Tryz.func90, Tryz.ntmps90
    go_wp2_with (go_at_call 109; refine (hs _ h1 h2 h3 h4 h5 h6).mono ?_; rintro _ _ ⟨rfl, B⟩; replace BB := bon BB B; replace c0 := cell_below B c0; replace c1 := cell_below B c1; replace c2 := cell_below B c2)
    obtain ⟨B, q0, q1, q2, BB⟩ := box3_on BB (.bool G) (.int .i64 E) (.int .i64 M) 119
    replace c0 := cell_below B c0; replace c1 := cell_below B c1; replace c2 := cell_below B c2
    have k_c0 := cell_regrown c0
    have k_c1 := cell_regrown c1
    have k_c2 := cell_regrown c2
    have k_q0 := cell_regrown q0
    have k_q1 := cell_regrown q1
    have k_q2 := cell_regrown q2
    refine wp_region_quiet_below (by kernel_rfl) (by kernel_rfl) ?_
    repeat (first | go_big_quiet_step ((first | (go_at_call 110; exact Calls.regrown_of (special_b _ _ _ _ h1 h2)))) | quiet_step ((first | (go_at_call 110; exact Calls.regrown_of (special_b _ _ _ _ h1 h2)))))
    refine wpQuiet_nil ?_
    intro W hw'
    have B := below_regrown' hw'
    clear hw' k_c0 k_c1 k_c2 k_q0 k_q1 k_q2
    replace BB := bon BB B
    replace c0 := cell_below B c0
    replace c1 := cell_below B c1
    replace c2 := cell_below B c2
    replace q0 := cell_below B q0
    replace q1 := cell_below B q1
    replace q2 := cell_below B q2
    go_wp2
    have k_c0 := cell_regrown c0
    have k_c1 := cell_regrown c1
    have k_c2 := cell_regrown c2
    have k_q0 := cell_regrown q0
    have k_q1 := cell_regrown q1
    have k_q2 := cell_regrown q2
    refine wp_region_quiet_below (by kernel_rfl) (by kernel_rfl) ?_
    repeat (first | go_big_quiet_step ((first | (go_at_call 110; exact Calls.regrown_of (special_b _ _ _ _ h1 h2)))) | quiet_step ((first | (go_at_call 110; exact Calls.regrown_of (special_b _ _ _ _ h1 h2)))))
    refine wpQuiet_nil ?_
    intro W hw'
    have B := below_regrown' hw'
    clear hw' k_c0 k_c1 k_c2 k_q0 k_q1 k_q2
    replace BB := bon BB B
    replace c0 := cell_below B c0
    replace c1 := cell_below B c1
    replace c2 := cell_below B c2
    replace q0 := cell_below B q0
    replace q1 := cell_below B q1
    replace q2 := cell_below B q2
    go_wp2
    have k_c0 := cell_regrown c0
    have k_c1 := cell_regrown c1
    have k_c2 := cell_regrown c2
    have k_q0 := cell_regrown q0
    have k_q1 := cell_regrown q1
    have k_q2 := cell_regrown q2
    refine wp_region_quiet_below (by kernel_rfl) (by kernel_rfl) ?_
    repeat (first | go_big_quiet_step ((first | (go_at_call 111; exact Calls.regrown_of (expscale_b _ _ e4.1 e4.2)) | (go_at_call 112; exact Calls.regrown_of (manscale_b _ _ _ _ h1 h2 h3 h4)) | (go_at_call 93; exact Calls.regrown_of (rounddiv_b _ _ _)) | (go_at_call 52; exact Calls.regrown_of (saturate_b _ _)))) | quiet_step ((first | (go_at_call 111; exact Calls.regrown_of (expscale_b _ _ e4.1 e4.2)) | (go_at_call 112; exact Calls.regrown_of (manscale_b _ _ _ _ h1 h2 h3 h4)) | (go_at_call 93; exact Calls.regrown_of (rounddiv_b _ _ _)) | (go_at_call 52; exact Calls.regrown_of (saturate_b _ _)))))
    refine wpQuiet_nil ?_
    intro W hw'
    have B := below_regrown' hw'
    clear hw' k_c0 k_c1 k_c2 k_q0 k_q1 k_q2
    replace BB := bon BB B
    replace c0 := cell_below B c0
    replace c1 := cell_below B c1
    replace c2 := cell_below B c2
    replace q0 := cell_below B q0
    replace q1 := cell_below B q1
    replace q2 := cell_below B q2
    go_wp2
    all_goals go_ret
    all_goals exact ⟨ret_int (by rw [HV.out, HD.out]; simp [*]), BB⟩

/-! ### Encode -/
theorem encm_bd (e m x : Int) (h1 : 2 ≤ e) (h2 : e ≤ 5) (h3 : 1 ≤ m) (h4 : m ≤ 10) (h5 : 0 ≤ x) (h6 : x < 536870912) : 0 ≤ encm e m x ∧ encm e m x < pw (e + m) := by
  have b := biasv_bd h1 h2
  have bk := exq_bd e x h1 h2 h5 h6
  have p1 := pw_pos (biasv e + m)
  have p3 := pw_pos (exq e x)
  have p5 := pw_pos m
  have p7 : 4 ≤ pw e := pw_le 2 e (by omega)
  have q := pw_add e m (by omega) (by omega)
  have m1 := mul_bd x (pw (biasv e + m)) x (pw (biasv e + m)) (by omega) (by omega) (by omega) (by omega)
  have m2 := mul_bd (exq e x - 1) (pw m) (exq e x - 1) (pw m) (by omega) (by omega) (by omega) (by omega)
  have m3 : (pw e - 1) * pw m = pw e * pw m - pw m := by rw [Int.sub_mul]; omega
  have m4 := mul_bd (pw e - 1) (pw m) (pw e - 1) (pw m) (by omega) (by omega) (by omega) (by omega)
  have m5 : 3 * pw m ≤ (pw e - 1) * pw m := Int.mul_le_mul_of_nonneg_right (by omega) (by omega)
  have d1 := dte_bd (x * pw (biasv e + m)) (65536 * pw (exq e x)) (by omega) (by omega)
  unfold encm; split <;> omega

def encv (e m : Int) (s : Bool) (x : Int) : Int :=
  if 0 ≤ x then encm e m (sat x) else if s then (if encm e m (-sat x) = 0 then 0 else pw (e + m) + encm e m (-sat x)) else 0

theorem sat_neg_iff (x : Int) : (sat x < 0 ↔ x < 0) := by unfold sat; grind

theorem encode_yes (e m x : Int) (s : Bool) (w : World) (h1 : 2 ≤ e) (h2 : e ≤ 5) (h3 : 1 ≤ m) (h4 : m ≤ 10) :
    Calls Tryz.prog 91 #[.agg #[.int .i64 e, .int .i64 m, .bool s], .int .i64 x] w fun y w' => y = .returned (.int .i64 (encv e m s x)) ∧ Below w.heap.size w w' := by
  obtain ⟨c0, c1, c2, BB⟩ := box3 w (.int .i64 e) (.int .i64 m) (.bool s) 78
  have bs := sat_bd x
  have bn := sat_neg_iff x
  by_cases hx : 0 ≤ x
  · have g1 : 0 ≤ sat x := by omega
    have HV : Hid (encv e m s x = encm e m (sat x)) := Lib.hid (by unfold encv; rw [if_pos hx])
    clear bn
    go_enter Tryz.func91, Tryz.ntmps91
    go_wp2_with (first | (go_at_call 52; refine (saturate_b _ _).mono ?_; rintro _ _ ⟨rfl, B⟩; replace BB := bon BB B; replace c0 := cell_below B c0; replace c1 := cell_below B c1; replace c2 := cell_below B c2) | (go_at_call 113; refine (valid_yes _ _ _ _ h1 h2 h3 h4).mono ?_; rintro _ _ ⟨rfl, B⟩; replace BB := bon BB B; replace c0 := cell_below B c0; replace c1 := cell_below B c1; replace c2 := cell_below B c2) | (go_at_call 114; refine (encm_b _ _ _ _ _ h1 h2 h3 h4 (by omega) (by omega)).mono ?_; rintro _ _ ⟨rfl, B⟩; replace BB := bon BB B; replace c0 := cell_below B c0; replace c1 := cell_below B c1; replace c2 := cell_below B c2))
    go_ret
    exact ⟨ret_int HV.out.symm, BB⟩
  · have g1 : sat x < 0 := by omega
    have mb := encm_bd e m (-sat x) h1 h2 h3 h4 (by omega) (by omega)
    cases s with
    | false =>
      have HV : Hid (encv e m false x = 0) := Lib.hid (by unfold encv; rw [if_neg hx]; rfl)
      clear bn
      go_enter Tryz.func91, Tryz.ntmps91
      go_wp2_with (first | (go_at_call 52; refine (saturate_b _ _).mono ?_; rintro _ _ ⟨rfl, B⟩; replace BB := bon BB B; replace c0 := cell_below B c0; replace c1 := cell_below B c1; replace c2 := cell_below B c2) | (go_at_call 113; refine (valid_yes _ _ _ _ h1 h2 h3 h4).mono ?_; rintro _ _ ⟨rfl, B⟩; replace BB := bon BB B; replace c0 := cell_below B c0; replace c1 := cell_below B c1; replace c2 := cell_below B c2) | (go_at_call 114; refine (encm_b _ _ _ _ _ h1 h2 h3 h4 (by omega) (by omega)).mono ?_; rintro _ _ ⟨rfl, B⟩; replace BB := bon BB B; replace c0 := cell_below B c0; replace c1 := cell_below B c1; replace c2 := cell_below B c2))
      go_ret
      exact ⟨ret_int HV.out.symm, BB⟩
    | true =>
      have o1 := or_high (encm e m (-sat x)) (e + m) (by omega) mb.1 mb.2
      have HV : Hid (encv e m true x = if encm e m (-sat x) = 0 then 0 else pw (e + m) + encm e m (-sat x)) := Lib.hid (by unfold encv; rw [if_neg hx]; rfl)
      clear bn
      go_enter Tryz.func91, Tryz.ntmps91
      go_wp2_with (first | (go_at_call 52; refine (saturate_b _ _).mono ?_; rintro _ _ ⟨rfl, B⟩; replace BB := bon BB B; replace c0 := cell_below B c0; replace c1 := cell_below B c1; replace c2 := cell_below B c2) | (go_at_call 113; refine (valid_yes _ _ _ _ h1 h2 h3 h4).mono ?_; rintro _ _ ⟨rfl, B⟩; replace BB := bon BB B; replace c0 := cell_below B c0; replace c1 := cell_below B c1; replace c2 := cell_below B c2) | (go_at_call 114; refine (encm_b _ _ _ _ _ h1 h2 h3 h4 (by omega) (by omega)).mono ?_; rintro _ _ ⟨rfl, B⟩; replace BB := bon BB B; replace c0 := cell_below B c0; replace c1 := cell_below B c1; replace c2 := cell_below B c2) | (go_at_call 115; refine (signbit_b _ _ _ _ h1 h2 h3 h4).mono ?_; rintro _ _ ⟨rfl, B⟩; replace BB := bon BB B; replace c0 := cell_below B c0; replace c1 := cell_below B c1; replace c2 := cell_below B c2))
      all_goals go_ret
      all_goals exact ⟨ret_int (by rw [HV.out]; split <;> simp_all), BB⟩

theorem encode_no (e m x : Int) (s : Bool) (w : World) (h : ¬ (2 ≤ e ∧ e ≤ 5 ∧ 1 ≤ m ∧ m ≤ 10)) :
    Calls Tryz.prog 91 #[.agg #[.int .i64 e, .int .i64 m, .bool s], .int .i64 x] w fun y w' => y = .returned (.int .i64 0) ∧ Below w.heap.size w w' := by
  obtain ⟨c0, c1, c2, BB⟩ := box3 w (.int .i64 e) (.int .i64 m) (.bool s) 78
  have H := Lib.hid h
  clear h
  go_enter Tryz.func91, Tryz.ntmps91
  go_wp2_with (first | (go_at_call 52; refine (saturate_b _ _).mono ?_; rintro _ _ ⟨rfl, B⟩; replace BB := bon BB B; replace c0 := cell_below B c0; replace c1 := cell_below B c1; replace c2 := cell_below B c2) | (go_at_call 113; refine (valid_no _ _ _ _ H.out).mono ?_; rintro _ _ ⟨rfl, B⟩; replace BB := bon BB B; replace c0 := cell_below B c0; replace c1 := cell_below B c1; replace c2 := cell_below B c2))
  go_ret
  exact ⟨rfl, BB⟩

theorem encv_bd (e m x : Int) (s : Bool) (h1 : 2 ≤ e) (h2 : e ≤ 5) (h3 : 1 ≤ m) (h4 : m ≤ 10) : 0 ≤ encv e m s x ∧ encv e m s x < pw (e + m + sbit s) := by
  have bs := sat_bd x
  have bn := sat_neg_iff x
  have p := pw_pos (e + m)
  have q : pw (e + m) ≤ pw (e + m + sbit s) := pw_le _ _ (by have := sbit_bd s; omega)
  unfold encv
  split
  · have := encm_bd e m (sat x) h1 h2 h3 h4 (by omega) (by omega); omega
  · have := encm_bd e m (-sat x) h1 h2 h3 h4 (by omega) (by omega)
    cases s with
    | false => simp; omega
    | true =>
      have : pw (e + m + sbit true) = 2 * pw (e + m) := pw_succ (e + m) (by omega)
      simp only [if_true]; split <;> omega

theorem quantize_yes (e m x : Int) (s : Bool) (w : World) (h1 : 2 ≤ e) (h2 : e ≤ 5) (h3 : 1 ≤ m) (h4 : m ≤ 10) :
    Calls Tryz.prog 50 #[.agg #[.int .i64 e, .int .i64 m, .bool s], .int .i64 x] w fun y w' => y = .returned (.int .i64 (decv e m (encv e m s x))) ∧ Below w.heap.size w w' := by
  obtain ⟨c0, c1, c2, BB⟩ := box3 w (.int .i64 e) (.int .i64 m) (.bool s) 78
  obtain ⟨b1, b2⟩ := encv_bd e m x s h1 h2 h3 h4
  go_enter Tryz.func50, Tryz.ntmps50
  go_wp2
  have k_c0 := cell_regrown c0
  have k_c1 := cell_regrown c1
  have k_c2 := cell_regrown c2
  refine wp_region_quiet_below (by kernel_rfl) (by kernel_rfl) ?_
  repeat (first | go_big_quiet_step ((first | (go_at_call 91; exact Calls.regrown_of (encode_yes _ _ _ _ _ h1 h2 h3 h4)) | (go_at_call 90; exact Calls.regrown_of (decode_yes _ _ _ _ _ h1 h2 h3 h4 b1 b2)))) | quiet_step ((first | (go_at_call 91; exact Calls.regrown_of (encode_yes _ _ _ _ _ h1 h2 h3 h4)) | (go_at_call 90; exact Calls.regrown_of (decode_yes _ _ _ _ _ h1 h2 h3 h4 b1 b2)))))
  refine wpQuiet_nil ?_
  intro W hw'
  have B := below_regrown' hw'
  clear hw' k_c0 k_c1 k_c2
  replace BB := bon BB B
  replace c0 := cell_below B c0
  replace c1 := cell_below B c1
  replace c2 := cell_below B c2
  go_wp2
  go_ret
  exact ⟨rfl, BB⟩

theorem quantize_no (e m x : Int) (s : Bool) (w : World) (h : ¬ (2 ≤ e ∧ e ≤ 5 ∧ 1 ≤ m ∧ m ≤ 10)) :
    Calls Tryz.prog 50 #[.agg #[.int .i64 e, .int .i64 m, .bool s], .int .i64 x] w fun y w' => y = .returned (.int .i64 0) ∧ Below w.heap.size w w' := by
  obtain ⟨c0, c1, c2, BB⟩ := box3 w (.int .i64 e) (.int .i64 m) (.bool s) 78
  have H := Lib.hid h
  clear h
  go_enter Tryz.func50, Tryz.ntmps50
  go_wp2
  have k_c0 := cell_regrown c0
  have k_c1 := cell_regrown c1
  have k_c2 := cell_regrown c2
  refine wp_region_quiet_below (by kernel_rfl) (by kernel_rfl) ?_
  repeat (first | go_big_quiet_step ((first | (go_at_call 91; exact Calls.regrown_of (encode_no _ _ _ _ _ H.out)) | (go_at_call 90; exact Calls.regrown_of (decode_no _ _ _ _ _ (fun h => H.out h.1))))) | quiet_step ((first | (go_at_call 91; exact Calls.regrown_of (encode_no _ _ _ _ _ H.out)) | (go_at_call 90; exact Calls.regrown_of (decode_no _ _ _ _ _ (fun h => H.out h.1))))))
  refine wpQuiet_nil ?_
  intro W hw'
  have B := below_regrown' hw'
  clear hw' k_c0 k_c1 k_c2
  replace BB := bon BB B
  replace c0 := cell_below B c0
  replace c1 := cell_below B c1
  replace c2 := cell_below B c2
  go_wp2
  go_ret
  exact ⟨rfl, BB⟩

end Go.Proofs.YtnhnbblplnhmlaaGreatDoor
