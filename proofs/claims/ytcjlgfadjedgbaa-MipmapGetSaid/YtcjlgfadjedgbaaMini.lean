/- What each call of package minifloat returns for a valid format: a number of the plain arithmetic; of the world nothing that was there has changed. -/
import Derived.Test.YtcjlgfadjedgbaaRows
import Derived.Test.YtcjlgfadjedgbaaFixedB
import Derived.Test.YtcjlgfadjedgbaaPow
import Derived.Deep.RegionHeld3
import Derived.BigQuiet
namespace Go.Proofs.Ytcjlgfadjedgbaa
open Go.RowKit Go.Sort

/-! ### plain numbers -/
/-- Is the format valid? -/
def vld (e m : Int) : Bool := decide (2 ≤ e ∧ e ≤ 5 ∧ 1 ≤ m ∧ m ≤ 10)
theorem vld_yes {e m : Int} (h1 : 2 ≤ e) (h2 : e ≤ 5) (h3 : 1 ≤ m) (h4 : m ≤ 10) : vld e m = true := by unfold vld; simp; omega
theorem vld_no {e m : Int} (h : ¬ (2 ≤ e ∧ e ≤ 5 ∧ 1 ≤ m ∧ m ≤ 10)) : vld e m = false := by unfold vld; simpa using h
def sbit (s : Bool) : Int := if s then 1 else 0
theorem sbit_bd (s : Bool) : 0 ≤ sbit s ∧ sbit s ≤ 1 := by cases s <;> decide
def biasv (e : Int) : Int := pw (e - 1) - 1
theorem biasv_bd {e : Int} (h1 : 2 ≤ e) (h2 : e ≤ 5) : 1 ≤ biasv e ∧ biasv e ≤ 15 := by
  have := pw_le 1 (e - 1) (by omega)
  have := pw_le (e - 1) 4 (by omega)
  have e1 : pw 1 = 2 := rfl
  have e4 : pw 4 = 16 := rfl
  unfold biasv; omega

/-! ### the calls -/
theorem valid_yes (e m : Int) (s : Bool) (w : World) (h1 : 2 ≤ e) (h2 : e ≤ 5) (h3 : 1 ≤ m) (h4 : m ≤ 10) :
    Calls Try.prog 105 #[.agg #[.int .i64 e, .int .i64 m, .bool s]] w fun x w' => x = .returned (.bool true) ∧ Below w.heap.size w w' := by
  obtain ⟨c0, c1, c2, BB⟩ := box3 w (.int .i64 e) (.int .i64 m) (.bool s) 77
  go_enter Try.func105, Try.ntmps105
  go_wp2
  go_ret
  exact ⟨ret_bool (by simp <;> omega), BB⟩

theorem valid_no (e m : Int) (s : Bool) (w : World) (h : ¬ (2 ≤ e ∧ e ≤ 5 ∧ 1 ≤ m ∧ m ≤ 10)) :
    Calls Try.prog 105 #[.agg #[.int .i64 e, .int .i64 m, .bool s]] w fun x w' => x = .returned (.bool false) ∧ Below w.heap.size w w' := by
  obtain ⟨c0, c1, c2, BB⟩ := box3 w (.int .i64 e) (.int .i64 m) (.bool s) 77
  go_enter Try.func105, Try.ntmps105
  go_wp2
  all_goals go_ret
  all_goals exact ⟨ret_bool (by simp <;> omega), BB⟩

theorem bias_b (e m : Int) (s : Bool) (w : World) (h1 : 2 ≤ e) (h2 : e ≤ 5) :
    Calls Try.prog 122 #[.agg #[.int .i64 e, .int .i64 m, .bool s]] w fun x w' => x = .returned (.int .i64 (biasv e)) ∧ Below w.heap.size w w' := by
  obtain ⟨c0, c1, c2, BB⟩ := box3 w (.int .i64 e) (.int .i64 m) (.bool s) 77
  have b := biasv_bd h1 h2
  unfold biasv at b
  have q : wrap64 (2 ^ (e.toNat - 1)) = pw (e - 1) := by rw [← pw_wrap (e - 1) (by omega)]; congr 2; omega
  go_enter Try.func122, Try.ntmps122
  go_wp2
  go_ret
  exact ⟨rfl, BB⟩

theorem signbit_b (e m : Int) (s : Bool) (w : World) (h1 : 2 ≤ e) (h2 : e ≤ 5) (h3 : 1 ≤ m) (h4 : m ≤ 10) :
    Calls Try.prog 107 #[.agg #[.int .i64 e, .int .i64 m, .bool s]] w fun x w' => x = .returned (.int .i64 (pw (e + m))) ∧ Below w.heap.size w w' := by
  obtain ⟨c0, c1, c2, BB⟩ := box3 w (.int .i64 e) (.int .i64 m) (.bool s) 77
  have q := pw_i64 (e + m) (by omega)
  go_enter Try.func107, Try.ntmps107
  go_wp2
  go_ret
  exact ⟨rfl, BB⟩

theorem special_b (e m : Int) (s : Bool) (w : World) (h1 : 2 ≤ e) (h2 : e ≤ 5) :
    Calls Try.prog 120 #[.agg #[.int .i64 e, .int .i64 m, .bool s]] w fun x w' => x = .returned (.int .i64 (pw e - 1)) ∧ Below w.heap.size w w' := by
  obtain ⟨c0, c1, c2, BB⟩ := box3 w (.int .i64 e) (.int .i64 m) (.bool s) 77
  have q := pw_wrap e (by omega)
  have b1 := pw_pos e
  have b2 := pw_62 e (by omega)
  go_enter Try.func120, Try.ntmps120
  go_wp2
  go_ret
  exact ⟨rfl, BB⟩

theorem expscale_b (k : Int) (w : World) (h1 : 0 ≤ k) (h2 : k ≤ 40) :
    Calls Try.prog 119 #[.int .i64 k] w fun x w' => x = .returned (.int .i64 (65536 * pw k)) ∧ Below w.heap.size w w' := by
  have b1 := pw_pos k
  have b2 := pw_le k 40 h2
  have e40 : pw 40 = 1099511627776 := rfl
  have q := pw_wrap_mul 65536 k (by omega) (by omega)
  go_enter Try.func119, Try.ntmps119
  go_wp2
  go_ret
  exact ⟨ret_int (pw_wrap_mul _ _ (by omega) (by omega)), Below.refl _ _⟩

theorem manscale_b (e m : Int) (s : Bool) (w : World) (h1 : 2 ≤ e) (h2 : e ≤ 5) (h3 : 1 ≤ m) (h4 : m ≤ 10) :
    Calls Try.prog 118 #[.agg #[.int .i64 e, .int .i64 m, .bool s]] w fun x w' => x = .returned (.int .i64 (pw (biasv e + m))) ∧ Below w.heap.size w w' := by
  obtain ⟨c0, c1, c2, BB⟩ := box3 w (.int .i64 e) (.int .i64 m) (.bool s) 77
  have b := biasv_bd h1 h2
  have q := pw_wrap (biasv e + m) (by omega)
  have i1 : IntKind.i64.wrap (biasv e + m) = biasv e + m := IntWalk.i64_in _ (by omega)
  go_enter Try.func118, Try.ntmps118
  go_wp2
  have k_c0 := cell_regrown c0
  have k_c1 := cell_regrown c1
  have k_c2 := cell_regrown c2
  refine wp_region_quiet_below (by kernel_rfl) (by kernel_rfl) ?_
  repeat (first | go_big_quiet_step ((first | (go_at_call 122; exact Calls.regrown_of (bias_b _ _ _ _ h1 h2)))) | quiet_step ((first | (go_at_call 122; exact Calls.regrown_of (bias_b _ _ _ _ h1 h2)))))
  refine wpQuiet_nil ?_
  intro W hw'
  have B := below_regrown' hw'
  clear hw' k_c0 k_c1 k_c2
  replace BB := bon BB B
  replace c0 := cell_below B c0
  replace c1 := cell_below B c1
  replace c2 := cell_below B c2
  go_wp2
  go_ret
  exact ⟨ret_int (pw_wrap _ (by omega)), BB⟩

set_option maxRecDepth 100000 in
theorem len64_b (x : Int) (w : World) (h0 : 0 ≤ x) (h1 : x < 1073741824) :
    Calls Try.prog 72 #[.int .u64 x] w fun e w' => e = .returned (.int .i64 (blen x)) ∧ Below w.heap.size w w' := by
  go_enter Try.func72, Try.ntmps72
  go_wp2
  all_goals go_ret
  all_goals refine ⟨ret_int ?_, Below.refl _ _⟩
  all_goals rw [len8tab_get, blen_tab]
  · have s1 := blen_16 x (by assumption)
    have s2 := blen_8 (x / 65536) (by assumption)
    have bd := blen_bd30 (x / 65536 / 256) (by omega) (by omega)
    rw [IntWalk.wrap64_in (blen (x / 65536 / 256)) (by omega), IntWalk.wrap64_in _ (by omega)]; omega
  · have s1 := blen_16 x (by assumption)
    have bd := blen_bd30 (x / 65536) (by omega) (by omega)
    rw [IntWalk.wrap64_in (blen (x / 65536)) (by omega), IntWalk.wrap64_in _ (by omega)]; omega
  · have s1 := blen_8 x (by assumption)
    have bd := blen_bd30 (x / 256) (by omega) (by omega)
    rw [IntWalk.wrap64_in (blen (x / 256)) (by omega), IntWalk.wrap64_in _ (by omega)]; omega
  · have bd := blen_bd30 x (by omega) (by omega)
    rw [IntWalk.wrap64_in (blen x) (by omega), IntWalk.wrap64_in _ (by omega)]

theorem len_b (x : Int) (w : World) (h0 : 0 ≤ x) (h1 : x < 1073741824) :
    Calls Try.prog 44 #[.int .u64 x] w fun e w' => e = .returned (.int .i64 (blen x)) ∧ Below w.heap.size w w' := by
  have BB := Below.refl w.heap.size w
  go_enter Try.func44, Try.ntmps44
  go_wp2_with (first | (go_at_call 72; refine (len64_b _ _ (by omega) (by omega)).mono ?_; rintro _ _ ⟨rfl, B⟩; replace BB := bon BB B))
  go_ret
  exact ⟨rfl, BB⟩

theorem exponentof_b (e m x : Int) (s : Bool) (w : World) (h1 : 2 ≤ e) (h2 : e ≤ 5) (h3 : 0 ≤ x) (h4 : x < 536870912) :
    Calls Try.prog 116 #[.agg #[.int .i64 e, .int .i64 m, .bool s], .int .i64 x] w fun y w' => y = .returned (.int .i64 (blen x - 17 + biasv e)) ∧ Below w.heap.size w w' := by
  obtain ⟨c0, c1, c2, BB⟩ := box3 w (.int .i64 e) (.int .i64 m) (.bool s) 77
  have b := biasv_bd h1 h2
  have b2 := blen_bd x h3 h4
  have b3 : blen 65536 = 17 := by decide
  have i0 : IntKind.u64.wrap x = x := by rw [IntKind.wrap_u64]; omega
  have i1 : IntKind.i64.wrap (blen x - 17) = blen x - 17 := IntWalk.i64_in _ (by omega)
  have i2 : IntKind.i64.wrap (blen x - 17 + biasv e) = blen x - 17 + biasv e := IntWalk.i64_in _ (by omega)
  go_enter Try.func116, Try.ntmps116
  go_wp2
  have k_c0 := cell_regrown c0
  have k_c1 := cell_regrown c1
  have k_c2 := cell_regrown c2
  refine wp_region_quiet_below (by kernel_rfl) (by kernel_rfl) ?_
  repeat (first | go_big_quiet_step ((first | (go_at_call 44; exact Calls.regrown_of (len_b _ _ (by omega) (by omega))) | (go_at_call 122; exact Calls.regrown_of (bias_b _ _ _ _ h1 h2)))) | quiet_step ((first | (go_at_call 44; exact Calls.regrown_of (len_b _ _ (by omega) (by omega))) | (go_at_call 122; exact Calls.regrown_of (bias_b _ _ _ _ h1 h2)))))
  refine wpQuiet_nil ?_
  intro W hw'
  have B := below_regrown' hw'
  clear hw' k_c0 k_c1 k_c2
  replace BB := bon BB B
  replace c0 := cell_below B c0
  replace c1 := cell_below B c1
  replace c2 := cell_below B c2
  go_wp2
  go_ret
  exact ⟨rfl, BB⟩

end Go.Proofs.Ytcjlgfadjedgbaa
