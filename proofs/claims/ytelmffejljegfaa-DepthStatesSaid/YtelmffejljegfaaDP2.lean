/- What Bits, Max, Quantize, Bias, ValidState, Test of package depth and of the reference return; the example. -/
import Derived.Test.YtelmffejljegfaaDP1
import Derived.Test.YtelmffejljegfaaPow
import Derived.Test.YtelmffejljegfaaTail
namespace Go.Proofs.Ytelmffejljegfaa
set_option linter.unusedSimpArgs false
open Go.RowKit Go.Sort
set_option linter.unusedVariables false

set_option maxRecDepth 100000 in
theorem bits_b (f : Int) (w : World) : Calls Try.prog 9 #[.int .i64 f] w fun e w' => e = .returned (.int .i64 (dbits f)) ∧ Below w.heap.size w w' := by
  rcases f_cases f with rfl | rfl | rfl | ⟨h1, h2, h3⟩
  all_goals
    go_enter Try.func9, Try.ntmps9
    go_wp2
    go_ret
    exact ⟨ret_int (by simp_all [dbits]), Below.refl _ _⟩

theorem bits_at (f v : Int) (h : dbits f = v) (w : World) : Calls Try.prog 9 #[.int .i64 f] w fun e w' => e = .returned (.int .i64 v) ∧ Below w.heap.size w w' := h ▸ bits_b f w

set_option maxRecDepth 100000 in
theorem rbits_b (f : Int) (w : World) : Calls Try.prog 10 #[.int .i64 f] w fun e w' => e = .returned (.int .i64 (dbits f)) ∧ Below w.heap.size w w' := by
  rcases f_cases f with rfl | rfl | rfl | ⟨h1, h2, h3⟩
  all_goals
    go_enter Try.func10, Try.ntmps10
    go_wp2
    go_ret
    exact ⟨ret_int (by simp_all [dbits]), Below.refl _ _⟩

theorem rbits_at (f v : Int) (h : dbits f = v) (w : World) : Calls Try.prog 10 #[.int .i64 f] w fun e w' => e = .returned (.int .i64 v) ∧ Below w.heap.size w w' := h ▸ rbits_b f w

theorem dbits_no {f : Int} (h1 : f ≠ 1) (h2 : f ≠ 2) (h3 : f ≠ 3) : dbits f = -1 ∧ dmax f = 0 := by simp [dbits, dmax, h1, h2, h3]

set_option maxRecDepth 100000 in
theorem max_b (f : Int) (w : World) : Calls Try.prog 11 #[.int .i64 f] w fun e w' => e = .returned (.int .i64 (dmax f)) ∧ Below w.heap.size w w' := by
  have BB := Below.refl w.heap.size w
  rcases f_cases f with rfl | rfl | rfl | ⟨h1, h2, h3⟩
  · go_enter Try.func11, Try.ntmps11
    go_wp2_with (first | (go_at_call 9; refine (bits_at 1 0 rfl _).mono ?_; rintro _ _ ⟨rfl, B⟩; replace BB := bon BB B))
    go_ret
    exact ⟨rfl, BB⟩
  · go_enter Try.func11, Try.ntmps11
    go_wp2_with (first | (go_at_call 9; refine (bits_at 2 16 rfl _).mono ?_; rintro _ _ ⟨rfl, B⟩; replace BB := bon BB B))
    go_ret
    exact ⟨rfl, BB⟩
  · go_enter Try.func11, Try.ntmps11
    go_wp2_with (first | (go_at_call 9; refine (bits_at 3 24 rfl _).mono ?_; rintro _ _ ⟨rfl, B⟩; replace BB := bon BB B))
    go_ret
    exact ⟨rfl, BB⟩
  · have HB := Lib.hid (dbits_no h1 h2 h3)
    clear h1 h2 h3
    go_enter Try.func11, Try.ntmps11
    go_wp2_with (first | (go_at_call 9; refine (bits_at f (-1) HB.out.1 _).mono ?_; rintro _ _ ⟨rfl, B⟩; replace BB := bon BB B))
    go_ret
    exact ⟨ret_int HB.out.2.symm, BB⟩

set_option maxRecDepth 100000 in
theorem rmax_pow (f : Int) (n : Nat) (hn : n ≤ 24) (hb : dbits f = (n : Int)) (w : World) : Calls Try.prog 12 #[.int .i64 f] w fun e w' => e = .returned (.int .i64 (pw n - 1)) ∧ Below w.heap.size w w' := by
  have BB := Below.refl w.heap.size w
  have HB := Lib.hid hb
  clear hb
  go_enter Try.func12, Try.ntmps12
  go_wp2
  go_loopw [3, 4] (fun m i wr => ∃ (k : Nat) (v : Int), k ≤ n ∧ i = .int .i64 k ∧ m = .int .i64 v ∧ v = pw k - 1 ∧ Below w.heap.size w wr) (fun _ i _ => n - (intOf i).toNat)
  case atStart => exact ⟨0, 0, Nat.zero_le _, rfl, rfl, rfl, BB⟩
  case round =>
    clear BB
    obtain ⟨k, v, hk, rfl, rfl, hv, BB⟩ := hrel
    rename World => wr
    have hp : 0 < pw k := pw_pos k
    have hp2 := pw_le k 24 (by omega)
    have e24 : pw 24 = 16777216 := rfl
    have HV := Lib.hid hv
    have hv0 : 0 ≤ v := by omega
    have hv1 : v ≤ 16777216 := by omega
    clear hv hp hp2 e24
    by_cases hlt : k < n
    · go_wp2_with (first | (go_at_call 10; refine (rbits_at f n HB.out _).mono ?_; rintro _ _ ⟨rfl, B⟩; replace BB := bon BB B))
      go_roundw
      case rel => exact ⟨k + 1, 2 * v + 1, by omega, by go_num, by go_num, by rw [HV.out, show ((k + 1 : Nat) : Int) = (k : Int) + 1 by omega, pw_succ k (by omega)]; omega, BB⟩
      case measure => simp [intOf]; omega
    · obtain rfl : k = n := by omega
      go_wp2_with (first | (go_at_call 10; refine (rbits_at f k HB.out _).mono ?_; rintro _ _ ⟨rfl, B⟩; replace BB := bon BB B))
      go_ret
      exact ⟨ret_int HV.out, BB⟩

theorem rmax_b (f : Int) (w : World) : Calls Try.prog 12 #[.int .i64 f] w fun e w' => e = .returned (.int .i64 (dmax f)) ∧ Below w.heap.size w w' := by
  rcases f_cases f with rfl | rfl | rfl | ⟨h1, h2, h3⟩
  · exact rmax_pow 1 0 (by omega) rfl w
  · exact rmax_pow 2 16 (by omega) rfl w
  · exact rmax_pow 3 24 (by omega) rfl w
  · have HB := Lib.hid (dbits_no h1 h2 h3)
    have BB := Below.refl w.heap.size w
    clear h1 h2 h3
    go_enter Try.func12, Try.ntmps12
    go_wp2
    go_loopw [3, 4] (fun m i wr => i = .int .i64 0 ∧ m = .int .i64 0 ∧ Below w.heap.size w wr) (fun _ i _ => 0)
    case atStart => exact ⟨rfl, rfl, BB⟩
    case round =>
      clear BB
      obtain ⟨rfl, rfl, BB⟩ := hrel
      go_wp2_with (first | (go_at_call 10; refine (rbits_at f (-1) HB.out.1 _).mono ?_; rintro _ _ ⟨rfl, B⟩; replace BB := bon BB B))
      go_ret
      exact ⟨ret_int HB.out.2.symm, BB⟩

set_option maxRecDepth 100000 in
theorem quant_b (f z : Int) (w : World) : Calls Try.prog 13 #[.int .i64 f, .int .i64 z] w fun e w' => e = .returned (.int .i64 (dqz f z)) ∧ Below w.heap.size w w' := by
  have BB := Below.refl w.heap.size w
  have h1 := clamp_one z
  have h2 := dmax_bd f
  have h3 := dprod_bd f z
  go_enter Try.func13, Try.ntmps13
  go_wp2_with (first | (go_at_call 28; refine (clamp_b z 0 65536 _).mono ?_; rintro _ _ ⟨rfl, B⟩; replace BB := bon BB B) | (go_at_call 11; refine (max_b f _).mono ?_; rintro _ _ ⟨rfl, B⟩; replace BB := bon BB B) | (go_at_call 27; refine (rounddiv_b _ 65536 _).mono ?_; rintro _ _ ⟨rfl, B⟩; replace BB := bon BB B))
  go_ret
  exact ⟨rfl, BB⟩

set_option maxRecDepth 100000 in
theorem rquant_b (f z : Int) (w : World) : Calls Try.prog 14 #[.int .i64 f, .int .i64 z] w fun e w' => e = .returned (.int .i64 (dqz f z)) ∧ Below w.heap.size w w' := by
  have BB := Below.refl w.heap.size w
  have h1 := clamp_one z
  have h2 := dmax_bd f
  have h3 := dprod_bd f z
  go_enter Try.func14, Try.ntmps14
  go_wp2_with (first | (go_at_call 30; refine (rclamp_b z 0 65536 _).mono ?_; rintro _ _ ⟨rfl, B⟩; replace BB := bon BB B) | (go_at_call 12; refine (rmax_b f _).mono ?_; rintro _ _ ⟨rfl, B⟩; replace BB := bon BB B) | (go_at_call 29; refine (rrounddiv_b _ 65536 _).mono ?_; rintro _ _ ⟨rfl, B⟩; replace BB := bon BB B))
  go_ret
  exact ⟨rfl, BB⟩

set_option maxRecDepth 100000 in
theorem bias_b (z b : Int) (w : World) : Calls Try.prog 15 #[.int .i64 z, .int .i64 b] w fun e w' => e = .returned (.int .i64 (dbias z b)) ∧ Below w.heap.size w w' := by
  have BB := Below.refl w.heap.size w
  have h1 := clamp_in z (-65536) 131072 (by omega)
  have h2 := clamp_in b (-65536) 65536 (by omega)
  go_enter Try.func15, Try.ntmps15
  go_wp2_with (first | (go_at_call 28; refine (clamp_b _ _ _ _).mono ?_; rintro _ _ ⟨rfl, B⟩; replace BB := bon BB B))
  go_ret
  exact ⟨rfl, BB⟩

set_option maxRecDepth 100000 in
theorem rbias_b (z b : Int) (w : World) : Calls Try.prog 16 #[.int .i64 z, .int .i64 b] w fun e w' => e = .returned (.int .i64 (dbias z b)) ∧ Below w.heap.size w w' := by
  have BB := Below.refl w.heap.size w
  have h1 := clamp_in z (-131072) 131072 (by omega)
  have h2 := clamp_in b (-65536) 65536 (by omega)
  go_enter Try.func16, Try.ntmps16
  go_wp2_with (first | (go_at_call 30; refine (rclamp_b _ _ _ _).mono ?_; rintro _ _ ⟨rfl, B⟩; replace BB := bon BB B))
  go_ret
  exact ⟨ret_int (dbias_ref z b), BB⟩

def vst (c bi : Int) : Bool := vcmp c && decide (-65536 ≤ bi ∧ bi ≤ 65536)

set_option maxRecDepth 100000 in
theorem vstate_b (t wr : Bool) (c bi : Int) (w : World) : Calls Try.prog 22 #[.agg #[.bool t, .bool wr, .int .i64 c, .int .i64 bi]] w fun e w' => e = .returned (.bool (vst c bi)) ∧ Below w.heap.size w w' := by
  obtain ⟨c0, c1, c2, c3, BB⟩ := box4 w (.bool t) (.bool wr) (.int .i64 c) (.int .i64 bi) 30
  have CV := Lib.hid (fun W => vcompare_b c W)
  unfold vst
  obtain ⟨v, hv⟩ : ∃ v, vcmp c = v := ⟨_, rfl⟩
  rw [hv] at CV ⊢
  clear hv
  cases v
  · go_enter Try.func22, Try.ntmps22
    go_wp2_with (first | (go_at_call 20; refine (CV.out _).mono ?_; rintro _ _ ⟨rfl, B⟩; replace BB := bon BB B; replace c0 := cell_below B c0; replace c1 := cell_below B c1; replace c2 := cell_below B c2; replace c3 := cell_below B c3))
    go_ret
    exact ⟨rfl, BB⟩
  · rcases (show bi < -65536 ∨ (-65536 ≤ bi ∧ bi ≤ 65536) ∨ 65536 < bi by omega) with h | ⟨h, h'⟩ | h
    all_goals
      go_enter Try.func22, Try.ntmps22
      go_wp2_with (first | (go_at_call 20; refine (CV.out _).mono ?_; rintro _ _ ⟨rfl, B⟩; replace BB := bon BB B; replace c0 := cell_below B c0; replace c1 := cell_below B c1; replace c2 := cell_below B c2; replace c3 := cell_below B c3))
      go_ret
      exact ⟨ret_bool (by simp <;> omega), BB⟩

set_option maxRecDepth 100000 in
set_option maxHeartbeats 1000000 in
theorem test_b (t wr : Bool) (c bi f z old : Int) (w : World) : Calls Try.prog 24 #[.agg #[.bool t, .bool wr, .int .i64 c, .int .i64 bi], .int .i64 f, .int .i64 z, .int .i64 old] w fun e w' => e = .returned (.tuple #[.bool (tst t wr c bi f z old).1, .int .i64 (tst t wr c bi f z old).2]) ∧ Below w.heap.size w w' := by
  obtain ⟨c0, c1, c2, c3, BB⟩ := box4 w (.bool t) (.bool wr) (.int .i64 c) (.int .i64 bi) 30
  have CB := Lib.hid (fun W => bits_b f W)
  have CI := Lib.hid (fun W => bias_b z bi W)
  have CQ := Lib.hid (fun W => quant_b f (dbias z bi) W)
  have CC := Lib.hid (fun W => compare_b c (dqz f (dbias z bi)) old W)
  unfold tst
  obtain ⟨n, hn⟩ : ∃ n, dbits f = n := ⟨_, rfl⟩
  obtain ⟨y, hy⟩ : ∃ y, dbias z bi = y := ⟨_, rfl⟩
  rw [hn] at CB ⊢
  rw [hy] at CI CQ CC ⊢
  obtain ⟨q, hq⟩ : ∃ q, dqz f y = q := ⟨_, rfl⟩
  rw [hq] at CQ CC ⊢
  obtain ⟨v, hv⟩ : ∃ v, cmpv c q old = v := ⟨_, rfl⟩
  rw [hv] at CC ⊢
  clear hn hy hq hv
  cases t
  · rw [if_pos (.inl rfl)]
    go_enter Try.func24, Try.ntmps24
    go_wp2
    go_ret2
    exact ⟨rfl, BB⟩
  rcases Int.lt_or_le n 1 with h | h
  · rw [if_pos (.inr h)]
    go_enter Try.func24, Try.ntmps24
    go_wp2_with (first | (go_at_call 9; refine (CB.out _).mono ?_; rintro _ _ ⟨rfl, B⟩; replace BB := bon BB B; replace c0 := cell_below B c0; replace c1 := cell_below B c1; replace c2 := cell_below B c2; replace c3 := cell_below B c3))
    go_ret2
    exact ⟨rfl, BB⟩
  rw [if_neg (by simp; omega)]
  cases v
  · go_enter Try.func24, Try.ntmps24
    go_wp2_with (first | (go_at_call 9; refine (CB.out _).mono ?_; rintro _ _ ⟨rfl, B⟩; replace BB := bon BB B; replace c0 := cell_below B c0; replace c1 := cell_below B c1; replace c2 := cell_below B c2; replace c3 := cell_below B c3) | (go_at_call 15; refine (CI.out _).mono ?_; rintro _ _ ⟨rfl, B⟩; replace BB := bon BB B; replace c0 := cell_below B c0; replace c1 := cell_below B c1; replace c2 := cell_below B c2; replace c3 := cell_below B c3) | (go_at_call 13; refine (CQ.out _).mono ?_; rintro _ _ ⟨rfl, B⟩; replace BB := bon BB B; replace c0 := cell_below B c0; replace c1 := cell_below B c1; replace c2 := cell_below B c2; replace c3 := cell_below B c3) | (go_at_call 18; refine (CC.out _).mono ?_; rintro _ _ ⟨rfl, B⟩; replace BB := bon BB B; replace c0 := cell_below B c0; replace c1 := cell_below B c1; replace c2 := cell_below B c2; replace c3 := cell_below B c3))
    go_ret2
    exact ⟨rfl, BB⟩
  · cases wr
    all_goals
      go_enter Try.func24, Try.ntmps24
      go_wp2_with (first | (go_at_call 9; refine (CB.out _).mono ?_; rintro _ _ ⟨rfl, B⟩; replace BB := bon BB B; replace c0 := cell_below B c0; replace c1 := cell_below B c1; replace c2 := cell_below B c2; replace c3 := cell_below B c3) | (go_at_call 15; refine (CI.out _).mono ?_; rintro _ _ ⟨rfl, B⟩; replace BB := bon BB B; replace c0 := cell_below B c0; replace c1 := cell_below B c1; replace c2 := cell_below B c2; replace c3 := cell_below B c3) | (go_at_call 13; refine (CQ.out _).mono ?_; rintro _ _ ⟨rfl, B⟩; replace BB := bon BB B; replace c0 := cell_below B c0; replace c1 := cell_below B c1; replace c2 := cell_below B c2; replace c3 := cell_below B c3) | (go_at_call 18; refine (CC.out _).mono ?_; rintro _ _ ⟨rfl, B⟩; replace BB := bon BB B; replace c0 := cell_below B c0; replace c1 := cell_below B c1; replace c2 := cell_below B c2; replace c3 := cell_below B c3))
      go_ret2
      exact ⟨rfl, BB⟩

set_option maxRecDepth 100000 in
theorem rvstate_b (t wr : Bool) (c bi : Int) (w : World) : Calls Try.prog 23 #[.agg #[.bool t, .bool wr, .int .i64 c, .int .i64 bi]] w fun e w' => e = .returned (.bool (vst c bi)) ∧ Below w.heap.size w w' := by
  obtain ⟨c0, c1, c2, c3, BB⟩ := box4 w (.bool t) (.bool wr) (.int .i64 c) (.int .i64 bi) 30
  have CV := Lib.hid (fun W => rvcompare_b c W)
  unfold vst
  obtain ⟨v, hv⟩ : ∃ v, vcmp c = v := ⟨_, rfl⟩
  rw [hv] at CV ⊢
  clear hv
  cases v
  · go_enter Try.func23, Try.ntmps23
    go_wp2_with (first | (go_at_call 21; refine (CV.out _).mono ?_; rintro _ _ ⟨rfl, B⟩; replace BB := bon BB B; replace c0 := cell_below B c0; replace c1 := cell_below B c1; replace c2 := cell_below B c2; replace c3 := cell_below B c3))
    go_ret
    exact ⟨rfl, BB⟩
  · rcases (show bi < -65536 ∨ (-65536 ≤ bi ∧ bi ≤ 65536) ∨ 65536 < bi by omega) with h | ⟨h, h'⟩ | h
    all_goals
      go_enter Try.func23, Try.ntmps23
      go_wp2_with (first | (go_at_call 21; refine (CV.out _).mono ?_; rintro _ _ ⟨rfl, B⟩; replace BB := bon BB B; replace c0 := cell_below B c0; replace c1 := cell_below B c1; replace c2 := cell_below B c2; replace c3 := cell_below B c3))
      go_ret
      exact ⟨ret_bool (by simp <;> omega), BB⟩

set_option maxRecDepth 100000 in
set_option maxHeartbeats 1000000 in
theorem rtest_b (t wr : Bool) (c bi f z old : Int) (w : World) : Calls Try.prog 25 #[.agg #[.bool t, .bool wr, .int .i64 c, .int .i64 bi], .int .i64 f, .int .i64 z, .int .i64 old] w fun e w' => e = .returned (.tuple #[.bool (tst t wr c bi f z old).1, .int .i64 (tst t wr c bi f z old).2]) ∧ Below w.heap.size w w' := by
  obtain ⟨c0, c1, c2, c3, BB⟩ := box4 w (.bool t) (.bool wr) (.int .i64 c) (.int .i64 bi) 30
  have CB := Lib.hid (fun W => rbits_b f W)
  have CI := Lib.hid (fun W => rbias_b z bi W)
  have CQ := Lib.hid (fun W => rquant_b f (dbias z bi) W)
  have CC := Lib.hid (fun W => rcompare_b c (dqz f (dbias z bi)) old W)
  unfold tst
  obtain ⟨n, hn⟩ : ∃ n, dbits f = n := ⟨_, rfl⟩
  obtain ⟨y, hy⟩ : ∃ y, dbias z bi = y := ⟨_, rfl⟩
  rw [hn] at CB ⊢
  rw [hy] at CI CQ CC ⊢
  obtain ⟨q, hq⟩ : ∃ q, dqz f y = q := ⟨_, rfl⟩
  rw [hq] at CQ CC ⊢
  obtain ⟨v, hv⟩ : ∃ v, cmpv c q old = v := ⟨_, rfl⟩
  rw [hv] at CC ⊢
  clear hn hy hq hv
  cases t
  · rw [if_pos (.inl rfl)]
    go_enter Try.func25, Try.ntmps25
    go_wp2
    go_ret2
    exact ⟨rfl, BB⟩
  rcases Int.lt_or_le n 1 with h | h
  · rw [if_pos (.inr h)]
    go_enter Try.func25, Try.ntmps25
    go_wp2_with (first | (go_at_call 10; refine (CB.out _).mono ?_; rintro _ _ ⟨rfl, B⟩; replace BB := bon BB B; replace c0 := cell_below B c0; replace c1 := cell_below B c1; replace c2 := cell_below B c2; replace c3 := cell_below B c3))
    go_ret2
    exact ⟨rfl, BB⟩
  rw [if_neg (by simp; omega)]
  cases v
  · go_enter Try.func25, Try.ntmps25
    go_wp2_with (first | (go_at_call 10; refine (CB.out _).mono ?_; rintro _ _ ⟨rfl, B⟩; replace BB := bon BB B; replace c0 := cell_below B c0; replace c1 := cell_below B c1; replace c2 := cell_below B c2; replace c3 := cell_below B c3) | (go_at_call 16; refine (CI.out _).mono ?_; rintro _ _ ⟨rfl, B⟩; replace BB := bon BB B; replace c0 := cell_below B c0; replace c1 := cell_below B c1; replace c2 := cell_below B c2; replace c3 := cell_below B c3) | (go_at_call 14; refine (CQ.out _).mono ?_; rintro _ _ ⟨rfl, B⟩; replace BB := bon BB B; replace c0 := cell_below B c0; replace c1 := cell_below B c1; replace c2 := cell_below B c2; replace c3 := cell_below B c3) | (go_at_call 19; refine (CC.out _).mono ?_; rintro _ _ ⟨rfl, B⟩; replace BB := bon BB B; replace c0 := cell_below B c0; replace c1 := cell_below B c1; replace c2 := cell_below B c2; replace c3 := cell_below B c3))
    go_ret2
    exact ⟨rfl, BB⟩
  · cases wr
    all_goals
      go_enter Try.func25, Try.ntmps25
      go_wp2_with (first | (go_at_call 10; refine (CB.out _).mono ?_; rintro _ _ ⟨rfl, B⟩; replace BB := bon BB B; replace c0 := cell_below B c0; replace c1 := cell_below B c1; replace c2 := cell_below B c2; replace c3 := cell_below B c3) | (go_at_call 16; refine (CI.out _).mono ?_; rintro _ _ ⟨rfl, B⟩; replace BB := bon BB B; replace c0 := cell_below B c0; replace c1 := cell_below B c1; replace c2 := cell_below B c2; replace c3 := cell_below B c3) | (go_at_call 14; refine (CQ.out _).mono ?_; rintro _ _ ⟨rfl, B⟩; replace BB := bon BB B; replace c0 := cell_below B c0; replace c1 := cell_below B c1; replace c2 := cell_below B c2; replace c3 := cell_below B c3) | (go_at_call 19; refine (CC.out _).mono ?_; rintro _ _ ⟨rfl, B⟩; replace BB := bon BB B; replace c0 := cell_below B c0; replace c1 := cell_below B c1; replace c2 := cell_below B c2; replace c3 := cell_below B c3))
      go_ret2
      exact ⟨rfl, BB⟩

theorem ex38 : tst true true 2 0 2 0 1 = (true, 0) ∧ dqz 2 65536 = 65535 := by decide

set_option maxRecDepth 100000 in
theorem example38_b (w : World) : Calls Try.prog 17 #[] w fun e w' => e = .returned (.bool true) ∧ Below w.heap.size w w' := by
  have BB := Below.refl w.heap.size w
  have CT := Lib.hid (fun W => test_b true true 2 0 2 0 1 W)
  have CQ := Lib.hid (fun W => quant_b 2 65536 W)
  rw [ex38.1] at CT
  rw [ex38.2] at CQ
  go_enter Try.func17, Try.ntmps17
  go_wp2_with (first | (go_at_call 24; refine (CT.out _).mono ?_; rintro _ _ ⟨rfl, B⟩; replace BB := bon BB B) | (go_at_call 13; refine (CQ.out _).mono ?_; rintro _ _ ⟨rfl, B⟩; replace BB := bon BB B))
  go_ret
  exact ⟨rfl, BB⟩

end Go.Proofs.Ytelmffejljegfaa
