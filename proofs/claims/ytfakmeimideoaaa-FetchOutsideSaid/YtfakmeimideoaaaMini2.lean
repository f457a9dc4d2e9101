/- What the calls of package minifloat return, second part: the patterns. -/
import Derived.Test.YtfakmeimideoaaaMini
import Derived.Test.YtfakmeimideoaaaTail
import Derived.Outline
namespace Go.Proofs.Ytfakmeimideoaaa
open Go.RowKit Go.Sort

/-- n/d rounded to the nearest integer, halves to the even one. -/
def dte (n d : Int) : Int := if d < 2 * (n % d) ∨ (2 * (n % d) = d ∧ (n / d) % 2 = 1) then n / d + 1 else n / d

/-- The exponent field of the unit with which x is rounded. -/
def exq (e x : Int) : Int := if 1 < blen x - 17 + biasv e then blen x - 17 + biasv e else 1
theorem exq_bd (e x : Int) (h1 : 2 ≤ e) (h2 : e ≤ 5) (h3 : 0 ≤ x) (h4 : x < 536870912) : 1 ≤ exq e x ∧ exq e x ≤ 27 := by
  have := blen_bd x h3 h4
  have := biasv_bd h1 h2
  unfold exq; split <;> omega
def encm (e m x : Int) : Int :=
  if (exq e x - 1) * pw m + dte (x * pw (biasv e + m)) (65536 * pw (exq e x)) ≤ (pw e - 1) * pw m - 1 then
    (exq e x - 1) * pw m + dte (x * pw (biasv e + m)) (65536 * pw (exq e x)) else (pw e - 1) * pw m - 1

theorem dte_bd (n d : Int) (h0 : 0 ≤ n) (h2 : 1 ≤ d) : 0 ≤ dte n d ∧ dte n d ≤ n + 1 := by
  have q0 : 0 ≤ n / d := Int.ediv_nonneg (by omega) (by omega)
  have q1 : n / d ≤ n := Int.ediv_le_self _ h0
  unfold dte; split <;> omega
theorem mul_bd (a b A B : Int) (ha : 0 ≤ a) (ha' : a ≤ A) (hb : 0 ≤ b) (hb' : b ≤ B) : 0 ≤ a * b ∧ a * b ≤ A * B :=
  ⟨Int.mul_nonneg ha hb, Int.mul_le_mul ha' hb' hb (by omega)⟩

theorem bits_b (e m : Int) (s : Bool) (w : World) (h1 : 2 ≤ e) (h2 : e ≤ 5) (h3 : 1 ≤ m) (h4 : m ≤ 10) :
    Calls Try.prog 67 #[.agg #[.int .i64 e, .int .i64 m, .bool s]] w fun x w' => x = .returned (.int .i64 (e + m + sbit s)) ∧ Below w.heap.size w w' := by
  obtain ⟨c0, c1, c2, BB⟩ := box3 w (.int .i64 e) (.int .i64 m) (.bool s) 61
  cases s
  all_goals
    go_enter Try.func67, Try.ntmps67
    go_wp2_with (first | (go_at_call 66; refine (valid_yes _ _ _ _ h1 h2 h3 h4).mono ?_; rintro _ _ ⟨rfl, B⟩; replace BB := bon BB B; replace c0 := cell_below B c0; replace c1 := cell_below B c1; replace c2 := cell_below B c2))
    go_ret
    exact ⟨ret_int (by simp [sbit] <;> omega), BB⟩

theorem bits_no (e m : Int) (s : Bool) (w : World) (h : ¬ (2 ≤ e ∧ e ≤ 5 ∧ 1 ≤ m ∧ m ≤ 10)) :
    Calls Try.prog 67 #[.agg #[.int .i64 e, .int .i64 m, .bool s]] w fun x w' => x = .returned (.int .i64 0) ∧ Below w.heap.size w w' := by
  obtain ⟨c0, c1, c2, BB⟩ := box3 w (.int .i64 e) (.int .i64 m) (.bool s) 61
  have H := Lib.hid h
  clear h
  go_enter Try.func67, Try.ntmps67
  go_wp2_with (first | (go_at_call 66; refine (valid_no _ _ _ _ H.out).mono ?_; rintro _ _ ⟨rfl, B⟩; replace BB := bon BB B; replace c0 := cell_below B c0; replace c1 := cell_below B c1; replace c2 := cell_below B c2))
  go_ret
  exact ⟨rfl, BB⟩

theorem half_b (w : World) :
    Calls Try.prog 49 #[] w fun x w' => x = .returned (.agg #[.int .i64 5, .int .i64 10, .bool true]) ∧ Below w.heap.size w w' := by
  go_enter Try.func49, Try.ntmps49
  go_wp2
  exact bodyPost_ret (v := .agg #[.int .i64 5, .int .i64 10, .bool true]) (by simp [results, Try.results49, go_sem]) rfl ⟨rfl, (Below.refl _ _).alloc (Nat.le_refl _) _⟩

/-! ### a pattern's fields -/
def pexp (e m b : Int) : Int := b / pw m % pw e
def pman (m b : Int) : Int := b % pw m
def pneg (e m b : Int) : Bool := decide (pw (e + m) ≤ b)

/-- The worlds of split: the format in a block of its own, behind it the result's. -/
def splitW (w : World) (e m : Int) (s : Bool) : World := (w.alloc (.cells #[.int .i64 e, .int .i64 m, .bool s] 61)).alloc (.cells #[.bool false, .int .i64 0, .int .i64 0] 66)
theorem splitW_facts (w : World) (e m : Int) (s : Bool) :
    Below w.heap.size w (splitW w e m s) ∧ (splitW w e m s).cell? ⟨w.heap.size, 0, none⟩ = some (.int .i64 e) ∧ (splitW w e m s).cell? ⟨w.heap.size, 1, none⟩ = some (.int .i64 m) ∧ (splitW w e m s).cell? ⟨w.heap.size, 2, none⟩ = some (.bool s) ∧
    (splitW w e m s).cell? ⟨w.heap.size + 1, 0, none⟩ = some (.bool false) ∧ (splitW w e m s).cell? ⟨w.heap.size + 1, 1, none⟩ = some (.int .i64 0) ∧ (splitW w e m s).cell? ⟨w.heap.size + 1, 2, none⟩ = some (.int .i64 0) ∧
    (splitW w e m s).frozen? ⟨w.heap.size + 1, 0, none⟩ = false ∧ (splitW w e m s).frozen? ⟨w.heap.size + 1, 1, none⟩ = false ∧ (splitW w e m s).frozen? ⟨w.heap.size + 1, 2, none⟩ = false := by
  unfold splitW
  refine ⟨((Below.refl _ _).alloc (Nat.le_refl _) _).alloc (by simp) _, ?_, ?_, ?_, ?_, ?_, ?_, ?_, ?_, ?_⟩ <;> simp

theorem split_no (e m b : Int) (s : Bool) (w : World) (h : ¬ ((2 ≤ e ∧ e ≤ 5 ∧ 1 ≤ m ∧ m ≤ 10) ∧ 0 ≤ b ∧ b < pw (e + m + sbit s))) :
    Calls Try.prog 58 #[.agg #[.int .i64 e, .int .i64 m, .bool s], .int .i64 b] w fun x w' => x = .returned (.tuple #[.agg #[.bool false, .int .i64 0, .int .i64 0], .bool false]) ∧ Below w.heap.size w w' := by
  obtain ⟨BB, c0, c1, c2, d0, d1, d2, f0, f1, f2⟩ := splitW_facts w e m s
  unfold splitW at *
  have H := Lib.hid h
  clear h
  by_cases hv : 2 ≤ e ∧ e ≤ 5 ∧ 1 ≤ m ∧ m ≤ 10
  · obtain ⟨h1, h2, h3, h4⟩ := hv
    have sb := sbit_bd s
    have i1 := pw_i64 (e + m + sbit s) (by omega)
    have hb : b < 0 ∨ (0 ≤ b ∧ pw (e + m + sbit s) ≤ b) := by have := H.out; omega
    rcases hb with hb | ⟨hb1, hb2⟩
    all_goals
      go_enter Try.func58, Try.ntmps58
      go_wp2_with (first | (go_at_call 66; refine (valid_yes _ _ _ _ h1 h2 h3 h4).mono ?_; rintro _ _ ⟨rfl, B⟩; replace BB := bon BB B; replace f0 := frozen_below B d0 f0; replace f1 := frozen_below B d1 f1; replace f2 := frozen_below B d2 f2; replace c0 := cell_below B c0; replace c1 := cell_below B c1; replace c2 := cell_below B c2; replace d0 := cell_below B d0; replace d1 := cell_below B d1; replace d2 := cell_below B d2) | (go_at_call 67; refine (bits_b _ _ _ _ h1 h2 h3 h4).mono ?_; rintro _ _ ⟨rfl, B⟩; replace BB := bon BB B; replace f0 := frozen_below B d0 f0; replace f1 := frozen_below B d1 f1; replace f2 := frozen_below B d2 f2; replace c0 := cell_below B c0; replace c1 := cell_below B c1; replace c2 := cell_below B c2; replace d0 := cell_below B d0; replace d1 := cell_below B d1; replace d2 := cell_below B d2))
      exact bodyPost_ret (v := .tuple #[.agg #[.bool false, .int .i64 0, .int .i64 0], .bool false]) (by simp [results, Try.results58, go_sem, *]) rfl ⟨rfl, ((BB.setCell (by simp) _).setCell (by simp) _).setCell (by simp) _⟩
  · go_enter Try.func58, Try.ntmps58
    go_wp2_with (first | (go_at_call 66; refine (valid_no _ _ _ _ hv).mono ?_; rintro _ _ ⟨rfl, B⟩; replace BB := bon BB B; replace f0 := frozen_below B d0 f0; replace f1 := frozen_below B d1 f1; replace f2 := frozen_below B d2 f2; replace c0 := cell_below B c0; replace c1 := cell_below B c1; replace c2 := cell_below B c2; replace d0 := cell_below B d0; replace d1 := cell_below B d1; replace d2 := cell_below B d2))
    exact bodyPost_ret (v := .tuple #[.agg #[.bool false, .int .i64 0, .int .i64 0], .bool false]) (by simp [results, Try.results58, go_sem, *]) rfl ⟨rfl, ((BB.setCell (by simp) _).setCell (by simp) _).setCell (by simp) _⟩

set_option maxRecDepth 100000 in
theorem split_yes (e m b : Int) (s : Bool) (w : World) (h1 : 2 ≤ e) (h2 : e ≤ 5) (h3 : 1 ≤ m) (h4 : m ≤ 10) (h5 : 0 ≤ b) (h6 : b < pw (e + m + sbit s)) :
    Calls Try.prog 58 #[.agg #[.int .i64 e, .int .i64 m, .bool s], .int .i64 b] w fun x w' => x = .returned (.tuple #[.agg #[.bool (pneg e m b), .int .i64 (pexp e m b), .int .i64 (pman m b)], .bool true]) ∧ Below w.heap.size w w' := by
  obtain ⟨BB, c0, c1, c2, d0, d1, d2, f0, f1, f2⟩ := splitW_facts w e m s
  unfold splitW at *
  have sb := sbit_bd s
  have p1 := pw_pos (e + m + sbit s)
  have p2 : pw (e + m + sbit s) ≤ 65536 := pw_le _ 16 (by omega)
  have i1 := pw_i64 (e + m + sbit s) (by omega)
  have i2 := pw_i64 m (by omega)
  have p3 := pw_pos m
  have p4 : pw m ≤ 1024 := pw_le _ 10 (by omega)
  have i3 : IntKind.i64.wrap (pw m - 1) = pw m - 1 := IntWalk.i64_in _ (by omega)
  have a1 := and_pw b m (by omega) (by omega)
  have a2 := and_pw (b / 2 ^ m.toNat) e (by omega) (by omega)
  go_enter Try.func58, Try.ntmps58
  go_wp2_with (first | (go_at_call 66; refine (valid_yes _ _ _ _ h1 h2 h3 h4).mono ?_; rintro _ _ ⟨rfl, B⟩; replace BB := bon BB B; replace f0 := frozen_below B d0 f0; replace f1 := frozen_below B d1 f1; replace f2 := frozen_below B d2 f2; replace c0 := cell_below B c0; replace c1 := cell_below B c1; replace c2 := cell_below B c2; replace d0 := cell_below B d0; replace d1 := cell_below B d1; replace d2 := cell_below B d2) | (go_at_call 67; refine (bits_b _ _ _ _ h1 h2 h3 h4).mono ?_; rintro _ _ ⟨rfl, B⟩; replace BB := bon BB B; replace f0 := frozen_below B d0 f0; replace f1 := frozen_below B d1 f1; replace f2 := frozen_below B d2 f2; replace c0 := cell_below B c0; replace c1 := cell_below B c1; replace c2 := cell_below B c2; replace d0 := cell_below B d0; replace d1 := cell_below B d1; replace d2 := cell_below B d2))
  have k_c0 := cell_regrown c0
  have k_c1 := cell_regrown c1
  have k_c2 := cell_regrown c2
  have k_d0 := cell_regrown d0
  have k_d1 := cell_regrown d1
  have k_d2 := cell_regrown d2
  refine wp_region_tail (n := 18) (by kernel_rfl) (by kernel_rfl) ?_
  simp only [List.take_succ_cons, List.take_zero, List.drop_succ_cons, List.drop_zero]
  repeat (first | go_big_quiet_step ((first | (go_at_call 68; exact Calls.regrown_of (signbit_b _ _ _ _ h1 h2 h3 h4)) | (go_at_call 59; exact Calls.regrown_of (special_b _ _ _ _ h1 h2)))) | quiet_step ((first | (go_at_call 68; exact Calls.regrown_of (signbit_b _ _ _ _ h1 h2 h3 h4)) | (go_at_call 59; exact Calls.regrown_of (special_b _ _ _ _ h1 h2)))))
  refine wpQuiet_nil ?_
  intro W hw'
  have B := below_regrown' hw'
  clear hw' k_c0 k_c1 k_c2 k_d0 k_d1 k_d2
  replace BB := bon BB B
  replace f0 := frozen_below B d0 f0
  replace f1 := frozen_below B d1 f1
  replace f2 := frozen_below B d2 f2
  replace c0 := cell_below B c0
  replace c1 := cell_below B c1
  replace c2 := cell_below B c2
  replace d0 := cell_below B d0
  replace d1 := cell_below B d1
  replace d2 := cell_below B d2
  go_wp2
  exact bodyPost_ret (v := .tuple #[.agg #[.bool (pneg e m b), .int .i64 (pexp e m b), .int .i64 (pman m b)], .bool true]) (by simp [results, Try.results58, go_sem, pneg, pexp, pman, *]; rfl) rfl ⟨rfl, ((BB.setCell (by simp) _).setCell (by simp) _).setCell (by simp) _⟩

/-! ### Decode -/
def decu (e m E M : Int) : Int := sat (rda ((if E = 0 then M else M + pw m) * (65536 * pw (if 1 < E then E else 1))) (pw (biasv e + m)))
def decm (e m E M : Int) : Int := if E = pw e - 1 then (if M = 0 then 536870911 else 0) else decu e m E M
def decv (e m b : Int) : Int := if pneg e m b then -decm e m (pexp e m b) (pman m b) else decm e m (pexp e m b) (pman m b)

theorem decode_no (e m b : Int) (s : Bool) (w : World) (h : ¬ ((2 ≤ e ∧ e ≤ 5 ∧ 1 ≤ m ∧ m ≤ 10) ∧ 0 ≤ b ∧ b < pw (e + m + sbit s))) :
    Calls Try.prog 48 #[.agg #[.int .i64 e, .int .i64 m, .bool s], .int .i64 b] w fun x w' => x = .returned (.int .i64 0) ∧ Below w.heap.size w w' := by
  obtain ⟨c0, c1, c2, BB⟩ := box3 w (.int .i64 e) (.int .i64 m) (.bool s) 61
  have H := Lib.hid h
  clear h
  go_enter Try.func48, Try.ntmps48
  go_wp2_with (first | (go_at_call 58; refine (split_no _ _ _ _ _ H.out).mono ?_; rintro _ _ ⟨rfl, B⟩; replace BB := bon BB B; replace c0 := cell_below B c0; replace c1 := cell_below B c1; replace c2 := cell_below B c2))
  go_ret
  exact ⟨rfl, BB.alloc BB.size _⟩

end Go.Proofs.Ytfakmeimideoaaa
