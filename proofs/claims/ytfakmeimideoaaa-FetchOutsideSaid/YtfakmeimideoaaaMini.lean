/- What each call of package minifloat returns for a valid format: a number of the plain arithmetic; of the world nothing that was there has changed. -/
import Derived.Test.YtfakmeimideoaaaRows
import Derived.Test.YtfakmeimideoaaaFixedB
import Derived.Test.YtfakmeimideoaaaPow
import Derived.Deep.RegionHeld3
import Derived.BigQuiet
namespace Go.Proofs.Ytfakmeimideoaaa
open Go.RowKit Go.Sort

/-! ### plain numbers -/
/-- Is the format valid? -/
def vld (e m : Int) : Bool := decide (2 ≤ e ∧ e ≤ 5 ∧ 1 ≤ m ∧ m ≤ 10)
theorem vld_yes {e m : Int} (h1 : 2 ≤ e) (h2 : e ≤ 5) (h3 : 1 ≤ m) (h4 : m ≤ 10) : vld e m = true := by unfold vld; simp; omega
theorem vld_no {e m : Int} (h : ¬ (2 ≤ e ∧ e ≤ 5 ∧ 1 ≤ m ∧ m ≤ 10)) : vld e m = false := by unfold vld; simpa using h
def sbit (s : Bool) : Int := if s then 1 else 0
theorem sbit_bd (s : Bool) : 0 ≤ sbit s ∧ sbit s ≤ 1 := by cases s <;> decide
def biasv (e : Int) : Int := pw (e - 1) - 1
theorem biasv_bd {e : Int} (h1 : 2 ≤ e) (h2 : e ≤ 5) : 1 ≤ biasv e ∧ biasv e ≤ 15 := by
  have := pw_le 1 (e - 1) (by omega)
  have := pw_le (e - 1) 4 (by omega)
  have e1 : pw 1 = 2 := rfl
  have e4 : pw 4 = 16 := rfl
  unfold biasv; omega

/-! ### the calls -/
theorem valid_yes (e m : Int) (s : Bool) (w : World) (h1 : 2 ≤ e) (h2 : e ≤ 5) (h3 : 1 ≤ m) (h4 : m ≤ 10) :
    Calls Try.prog 66 #[.agg #[.int .i64 e, .int .i64 m, .bool s]] w fun x w' => x = .returned (.bool true) ∧ Below w.heap.size w w' := by
  obtain ⟨c0, c1, c2, BB⟩ := box3 w (.int .i64 e) (.int .i64 m) (.bool s) 61
  go_enter Try.func66, Try.ntmps66
  go_wp2
  go_ret
  exact ⟨ret_bool (by simp <;> omega), BB⟩

theorem valid_no (e m : Int) (s : Bool) (w : World) (h : ¬ (2 ≤ e ∧ e ≤ 5 ∧ 1 ≤ m ∧ m ≤ 10)) :
    Calls Try.prog 66 #[.agg #[.int .i64 e, .int .i64 m, .bool s]] w fun x w' => x = .returned (.bool false) ∧ Below w.heap.size w w' := by
  obtain ⟨c0, c1, c2, BB⟩ := box3 w (.int .i64 e) (.int .i64 m) (.bool s) 61
  go_enter Try.func66, Try.ntmps66
  go_wp2
  all_goals go_ret
  all_goals exact ⟨ret_bool (by simp <;> omega), BB⟩

theorem bias_b (e m : Int) (s : Bool) (w : World) (h1 : 2 ≤ e) (h2 : e ≤ 5) :
    Calls Try.prog 69 #[.agg #[.int .i64 e, .int .i64 m, .bool s]] w fun x w' => x = .returned (.int .i64 (biasv e)) ∧ Below w.heap.size w w' := by
  obtain ⟨c0, c1, c2, BB⟩ := box3 w (.int .i64 e) (.int .i64 m) (.bool s) 61
  have b := biasv_bd h1 h2
  unfold biasv at b
  have q : wrap64 (2 ^ (e.toNat - 1)) = pw (e - 1) := by rw [← pw_wrap (e - 1) (by omega)]; congr 2; omega
  go_enter Try.func69, Try.ntmps69
  go_wp2
  go_ret
  exact ⟨rfl, BB⟩

theorem signbit_b (e m : Int) (s : Bool) (w : World) (h1 : 2 ≤ e) (h2 : e ≤ 5) (h3 : 1 ≤ m) (h4 : m ≤ 10) :
    Calls Try.prog 68 #[.agg #[.int .i64 e, .int .i64 m, .bool s]] w fun x w' => x = .returned (.int .i64 (pw (e + m))) ∧ Below w.heap.size w w' := by
  obtain ⟨c0, c1, c2, BB⟩ := box3 w (.int .i64 e) (.int .i64 m) (.bool s) 61
  have q := pw_i64 (e + m) (by omega)
  go_enter Try.func68, Try.ntmps68
  go_wp2
  go_ret
  exact ⟨rfl, BB⟩

theorem special_b (e m : Int) (s : Bool) (w : World) (h1 : 2 ≤ e) (h2 : e ≤ 5) :
    Calls Try.prog 59 #[.agg #[.int .i64 e, .int .i64 m, .bool s]] w fun x w' => x = .returned (.int .i64 (pw e - 1)) ∧ Below w.heap.size w w' := by
  obtain ⟨c0, c1, c2, BB⟩ := box3 w (.int .i64 e) (.int .i64 m) (.bool s) 61
  have q := pw_wrap e (by omega)
  have b1 := pw_pos e
  have b2 := pw_62 e (by omega)
  go_enter Try.func59, Try.ntmps59
  go_wp2
  go_ret
  exact ⟨rfl, BB⟩

theorem expscale_b (k : Int) (w : World) (h1 : 0 ≤ k) (h2 : k ≤ 40) :
    Calls Try.prog 60 #[.int .i64 k] w fun x w' => x = .returned (.int .i64 (65536 * pw k)) ∧ Below w.heap.size w w' := by
  have b1 := pw_pos k
  have b2 := pw_le k 40 h2
  have e40 : pw 40 = 1099511627776 := rfl
  have q := pw_wrap_mul 65536 k (by omega) (by omega)
  go_enter Try.func60, Try.ntmps60
  go_wp2
  go_ret
  exact ⟨ret_int (pw_wrap_mul _ _ (by omega) (by omega)), Below.refl _ _⟩

theorem manscale_b (e m : Int) (s : Bool) (w : World) (h1 : 2 ≤ e) (h2 : e ≤ 5) (h3 : 1 ≤ m) (h4 : m ≤ 10) :
    Calls Try.prog 61 #[.agg #[.int .i64 e, .int .i64 m, .bool s]] w fun x w' => x = .returned (.int .i64 (pw (biasv e + m))) ∧ Below w.heap.size w w' := by
  obtain ⟨c0, c1, c2, BB⟩ := box3 w (.int .i64 e) (.int .i64 m) (.bool s) 61
  have b := biasv_bd h1 h2
  have q := pw_wrap (biasv e + m) (by omega)
  have i1 : IntKind.i64.wrap (biasv e + m) = biasv e + m := IntWalk.i64_in _ (by omega)
  go_enter Try.func61, Try.ntmps61
  go_wp2
  have k_c0 := cell_regrown c0
  have k_c1 := cell_regrown c1
  have k_c2 := cell_regrown c2
  refine wp_region_quiet_below (by kernel_rfl) (by kernel_rfl) ?_
  repeat (first | go_big_quiet_step ((first | (go_at_call 69; exact Calls.regrown_of (bias_b _ _ _ _ h1 h2)))) | quiet_step ((first | (go_at_call 69; exact Calls.regrown_of (bias_b _ _ _ _ h1 h2)))))
  refine wpQuiet_nil ?_
  intro W hw'
  have B := below_regrown' hw'
  clear hw' k_c0 k_c1 k_c2
  replace BB := bon BB B
  replace c0 := cell_below B c0
  replace c1 := cell_below B c1
  replace c2 := cell_below B c2
  go_wp2
  go_ret
  exact ⟨ret_int (pw_wrap _ (by omega)), BB⟩

end Go.Proofs.Ytfakmeimideoaaa
