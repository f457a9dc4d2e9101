/- What Valid, Count, Triangle of package assemble and of the reference return. -/
import Derived.Test.YtepammildggnmaaProg
import Derived.Test.YtepammildggnmaaJMath
import Derived.Test.YtepammildggnmaaEBox
import Derived.Test.YtepammildggnmaaTail
import Derived.IntWalk
namespace Go.Proofs.Ytepammildggnmaa
open Go.RowKit Go.Sort Go.ChangeShapes Go.WideShapes
set_option linter.unusedVariables false

theorem ret_int {k : IntKind} {a b : Int} (h : a = b) : Ending.returned (.int k a) = .returned (.int k b) := by rw [h]

theorem ret_bool {a b : Bool} (h : a = b) : Ending.returned (.bool a) = .returned (.bool b) := by rw [h]

theorem of_q {f : FuncId} {args : Array Value} {w : World} {v : Value} (h : Calls Try.prog f args w fun e w' => e = .returned v ∧ w = w') : Calls Try.prog f args w fun e w' => e = .returned v ∧ Below w.heap.size w w' :=
  h.mono fun _ _ ⟨h1, h2⟩ => ⟨h1, h2 ▸ Below.refl _ _⟩

theorem t_cases (t : Int) : t = 1 ∨ t = 2 ∨ t = 3 ∨ (t ≠ 1 ∧ t ≠ 2 ∧ t ≠ 3) := by omega

theorem tvalid_no {t : Int} (h : t ≠ 1 ∧ t ≠ 2 ∧ t ≠ 3) : ¬ tvalid t := fun q => by rcases q with q | q | q <;> omega

theorem triK : RowK Try.prog 24 3 := ⟨⟨_, Try.underlying24, rfl⟩, by kernel_rfl⟩

def tri (x : Tri) : List Value := [.int .i64 x.x, .int .i64 x.y, .int .i64 x.z]
theorem triEnc : Enc tri 3 := ⟨fun _ => rfl, by decide, fun x v hv => by simp [tri] at hv; rcases hv with rfl | rfl | rfl <;> rfl⟩

theorem tvalid_q (t : Int) (w : World) : Calls Try.prog 17 #[.int .i64 t] w fun e w' => e = .returned (.bool (decide (tvalid t))) ∧ w = w' := by
  rcases t_cases t with rfl | rfl | rfl | h
  all_goals try (go_enter Try.func17, Try.ntmps17; go_wp2; go_ret; exact ⟨rfl, rfl⟩)
  rw [decide_eq_false (tvalid_no h)]
  obtain ⟨h1, h2, h3⟩ := h
  go_enter Try.func17, Try.ntmps17
  go_wp2
  go_ret
  exact ⟨ret_bool (by simp [h1, h2, h3]), rfl⟩

theorem cnt_q (t n : Int) (w : World) (hn : n ≤ 9223372036854775807) (hm : -9223372036854775808 ≤ n) : Calls Try.prog 15 #[.int .i64 t, .int .i64 n] w fun e w' => e = .returned (.int .i64 (cnt t n)) ∧ w = w' := by
  have CV := Lib.hid (fun W => tvalid_q t W)
  rcases Int.lt_or_le n 0 with h0 | h0
  · rw [show cnt t n = 0 by unfold cnt; rw [if_pos (.inl h0)]]
    go_enter Try.func15, Try.ntmps15
    go_wp2_with (go_at_call 17; (with_reducible refine (CV.out _).mono ?_); rintro _ _ ⟨rfl, rfl⟩)
    go_ret
    exact ⟨rfl, rfl⟩
  · by_cases hv : tvalid t
    · rw [decide_eq_true hv] at CV
      rcases (show t = 1 ∨ (t ≠ 1 ∧ n < 2) ∨ (t ≠ 1 ∧ 2 ≤ n) by omega) with rfl | ⟨h1, h2⟩ | ⟨h1, h2⟩
      · rw [show cnt 1 n = n / 3 by unfold cnt; rw [if_neg (by intro q; rcases q with q | q; exact absurd q (by omega); exact q hv), if_pos rfl]]
        clear hv
        go_enter Try.func15, Try.ntmps15
        go_wp2_with (go_at_call 17; (with_reducible refine (CV.out _).mono ?_); rintro _ _ ⟨rfl, rfl⟩)
        go_ret
        exact ⟨rfl, rfl⟩
      · rw [show cnt t n = 0 by unfold cnt; rw [if_neg (by intro q; rcases q with q | q; exact absurd q (by omega); exact q hv), if_neg h1, if_pos h2]]
        clear hv
        go_enter Try.func15, Try.ntmps15
        go_wp2_with (go_at_call 17; (with_reducible refine (CV.out _).mono ?_); rintro _ _ ⟨rfl, rfl⟩)
        all_goals go_ret
        all_goals first | exact ⟨rfl, rfl⟩ | (exfalso; omega) | exact ⟨ret_int (by omega), rfl⟩
      · rw [show cnt t n = n - 2 by unfold cnt; rw [if_neg (by intro q; rcases q with q | q; exact absurd q (by omega); exact q hv), if_neg h1, if_neg (by omega)]]
        clear hv
        go_enter Try.func15, Try.ntmps15
        go_wp2_with (go_at_call 17; (with_reducible refine (CV.out _).mono ?_); rintro _ _ ⟨rfl, rfl⟩)
        all_goals go_ret
        all_goals first | exact ⟨rfl, rfl⟩ | (exfalso; omega) | exact ⟨ret_int (by omega), rfl⟩
    · rw [decide_eq_false hv] at CV
      rw [show cnt t n = 0 by unfold cnt; rw [if_pos (.inr hv)]]
      clear hv
      go_enter Try.func15, Try.ntmps15
      go_wp2_with (go_at_call 17; (with_reducible refine (CV.out _).mono ?_); rintro _ _ ⟨rfl, rfl⟩)
      go_ret
      exact ⟨rfl, rfl⟩

theorem rtvalid_q (t : Int) (w : World) : Calls Try.prog 18 #[.int .i64 t] w fun e w' => e = .returned (.bool (decide (tvalid t))) ∧ w = w' := by
  rcases t_cases t with rfl | rfl | rfl | h
  all_goals try (go_enter Try.func18, Try.ntmps18; go_wp2; go_ret; exact ⟨rfl, rfl⟩)
  rw [decide_eq_false (tvalid_no h)]
  obtain ⟨h1, h2, h3⟩ := h
  go_enter Try.func18, Try.ntmps18
  go_wp2
  go_ret
  exact ⟨ret_bool (by simp [h1, h2, h3]), rfl⟩

theorem rcnt_q (t n : Int) (w : World) (hn : n ≤ 9223372036854775807) (hm : -9223372036854775808 ≤ n) : Calls Try.prog 16 #[.int .i64 t, .int .i64 n] w fun e w' => e = .returned (.int .i64 (cnt t n)) ∧ w = w' := by
  have CV := Lib.hid (fun W => rtvalid_q t W)
  rcases Int.lt_or_le n 0 with h0 | h0
  · rw [show cnt t n = 0 by unfold cnt; rw [if_pos (.inl h0)]]
    go_enter Try.func16, Try.ntmps16
    go_wp2_with (go_at_call 18; (with_reducible refine (CV.out _).mono ?_); rintro _ _ ⟨rfl, rfl⟩)
    go_ret
    exact ⟨rfl, rfl⟩
  · by_cases hv : tvalid t
    · rw [decide_eq_true hv] at CV
      rcases (show t = 1 ∨ (t ≠ 1 ∧ n < 2) ∨ (t ≠ 1 ∧ 2 ≤ n) by omega) with rfl | ⟨h1, h2⟩ | ⟨h1, h2⟩
      · rw [show cnt 1 n = n / 3 by unfold cnt; rw [if_neg (by intro q; rcases q with q | q; exact absurd q (by omega); exact q hv), if_pos rfl]]
        clear hv
        go_enter Try.func16, Try.ntmps16
        go_wp2_with (go_at_call 18; (with_reducible refine (CV.out _).mono ?_); rintro _ _ ⟨rfl, rfl⟩)
        go_ret
        exact ⟨rfl, rfl⟩
      · rw [show cnt t n = 0 by unfold cnt; rw [if_neg (by intro q; rcases q with q | q; exact absurd q (by omega); exact q hv), if_neg h1, if_pos h2]]
        clear hv
        go_enter Try.func16, Try.ntmps16
        go_wp2_with (go_at_call 18; (with_reducible refine (CV.out _).mono ?_); rintro _ _ ⟨rfl, rfl⟩)
        all_goals go_ret
        all_goals first | exact ⟨rfl, rfl⟩ | (exfalso; omega) | exact ⟨ret_int (by omega), rfl⟩
      · rw [show cnt t n = n - 2 by unfold cnt; rw [if_neg (by intro q; rcases q with q | q; exact absurd q (by omega); exact q hv), if_neg h1, if_neg (by omega)]]
        clear hv
        go_enter Try.func16, Try.ntmps16
        go_wp2_with (go_at_call 18; (with_reducible refine (CV.out _).mono ?_); rintro _ _ ⟨rfl, rfl⟩)
        all_goals go_ret
        all_goals first | exact ⟨rfl, rfl⟩ | (exfalso; omega) | exact ⟨ret_int (by omega), rfl⟩
    · rw [decide_eq_false hv] at CV
      rw [show cnt t n = 0 by unfold cnt; rw [if_pos (.inr hv)]]
      clear hv
      go_enter Try.func16, Try.ntmps16
      go_wp2_with (go_at_call 18; (with_reducible refine (CV.out _).mono ?_); rintro _ _ ⟨rfl, rfl⟩)
      go_ret
      exact ⟨rfl, rfl⟩

set_option maxRecDepth 100000 in
theorem tri_no (A : Option Addr) (n c : Nat) (l : List Int) (t i : Int) (w : World) (hl : l.length = n) (hn : n ≤ 9223372036854775807) (h : ¬ (0 ≤ i ∧ i < cnt t n)) :
    Calls Try.prog 10 #[.int .i64 t, .slice A n c, .int .i64 i] w fun e w' => e = .returned (.tuple #[.agg #[.int .i64 (trf t l i).x, .int .i64 (trf t l i).y, .int .i64 (trf t l i).z], .bool (trb t n i)]) ∧ Below w.heap.size w w' := by
  have X0 := EBox.made w #[.int .i64 0, .int .i64 0, .int .i64 0] 24
  have BB := box_below w #[.int .i64 0, .int .i64 0, .int .i64 0] 24
  have CC := Lib.hid (fun W => cnt_q t n W (by omega) (by omega))
  rw [show trf t l i = ⟨0, 0, 0⟩ by unfold trf; rw [hl, if_neg h], show trb t n i = false from decide_eq_false h]
  obtain ⟨q, hq⟩ : ∃ q, cnt t n = q := ⟨_, rfl⟩
  rw [hq] at CC h
  clear hq hl
  rcases (show i < 0 ∨ (0 ≤ i ∧ q ≤ i) by omega) with h1 | ⟨h1, h2⟩
  all_goals
    clear h
    go_enter Try.func10, Try.ntmps10
    go_wp2_with (first
      | (go_at_call 15; (with_reducible refine (CC.out _).mono ?_); rintro _ _ ⟨rfl, rfl⟩)
      | ((with_reducible refine eset3L triK X0 ?_ ?_ ?_); focus rfl; focus rfl; intro V1 X1 B1 hc hf))
    exact bodyPost_ret (v := .tuple #[.agg #[.int .i64 0, .int .i64 0, .int .i64 0], .bool false]) (by simp [results, Try.results10, go_sem]) rfl ⟨rfl, BB⟩

set_option maxRecDepth 100000 in
theorem rtri_no (A : Option Addr) (n c : Nat) (l : List Int) (t i : Int) (w : World) (hl : l.length = n) (hn : n ≤ 9223372036854775807) (h : ¬ (0 ≤ i ∧ i < cnt t n)) :
    Calls Try.prog 11 #[.int .i64 t, .slice A n c, .int .i64 i] w fun e w' => e = .returned (.tuple #[.agg #[.int .i64 (trf t l i).x, .int .i64 (trf t l i).y, .int .i64 (trf t l i).z], .bool (trb t n i)]) ∧ Below w.heap.size w w' := by
  have X0 := EBox.made w #[.int .i64 0, .int .i64 0, .int .i64 0] 24
  have BB := box_below w #[.int .i64 0, .int .i64 0, .int .i64 0] 24
  have CC := Lib.hid (fun W => rcnt_q t n W (by omega) (by omega))
  rw [show trf t l i = ⟨0, 0, 0⟩ by unfold trf; rw [hl, if_neg h], show trb t n i = false from decide_eq_false h]
  obtain ⟨q, hq⟩ : ∃ q, cnt t n = q := ⟨_, rfl⟩
  rw [hq] at CC h
  clear hq hl
  rcases (show i < 0 ∨ (0 ≤ i ∧ q ≤ i) by omega) with h1 | ⟨h1, h2⟩
  all_goals
    clear h
    go_enter Try.func11, Try.ntmps11
    go_wp2_with (first
      | (go_at_call 16; (with_reducible refine (CC.out _).mono ?_); rintro _ _ ⟨rfl, rfl⟩)
      | ((with_reducible refine eset3L triK X0 ?_ ?_ ?_); focus rfl; focus rfl; intro V1 X1 B1 hc hf))
    exact bodyPost_ret (v := .tuple #[.agg #[.int .i64 0, .int .i64 0, .int .i64 0], .bool false]) (by simp [results, Try.results11, go_sem]) rfl ⟨rfl, BB⟩

theorem rg_at {l : List Int} {j : Nat} {x : Int} (h : l[j]? = some x) : rg' l j = x := by unfold rg'; rw [List.getD, h]; rfl

set_option maxRecDepth 100000 in
set_option maxHeartbeats 1000000 in
theorem tri_list (A : Option Addr) (n c j : Nat) (l : List Int) (w : World) (R : Rd w w.heap.size .i64 A n l) (hn : n ≤ 9223372036854775800) (h : (j : Int) < cnt 1 n) :
    Calls Try.prog 10 #[.int .i64 1, .slice A n c, .int .i64 (j : Int)] w fun e w' => e = .returned (.tuple #[.agg #[.int .i64 (rg' l (3 * j)), .int .i64 (rg' l (3 * j + 1)), .int .i64 (rg' l (3 * j + 2))], .bool true]) ∧ Below w.heap.size w w' := by
  have X0 := EBox.made w #[.int .i64 0, .int .i64 0, .int .i64 0] 24
  have BB := box_below w #[.int .i64 0, .int .i64 0, .int .i64 0] 24
  have CC := Lib.hid (fun W => cnt_q 1 n W (by omega) (by omega))
  have hin : 3 * j < n ∧ 3 * j + 1 < n ∧ 3 * j + 2 < n := by
    have := cor_in h
    simpa [cor] using this
  obtain ⟨i0, i1, i2⟩ := hin
  obtain ⟨b, off, x, rfl, c0, x0, x0', hx⟩ := (R.on BB).int i0
  obtain ⟨b1, off1, y, e1, c1, y0, y0', hy⟩ := (R.on BB).int i1
  obtain ⟨b2, off2, z, e2, c2, z0, z0', hz⟩ := (R.on BB).int i2
  injection e1 with e1; injection e1 with e1 e1'; subst e1; subst e1'
  injection e2 with e2; injection e2 with e2 e2'; subst e2; subst e2'
  rw [rg_at hx.out, rg_at hy.out, rg_at hz.out]
  obtain ⟨q, hq⟩ : ∃ q, cnt 1 n = q := ⟨_, rfl⟩
  rw [hq] at CC h
  have X9 := Lib.hid X0
  clear hx hy hz R hq X0
  have g0 : IntKind.i64.wrap (3 * (j : Int)) = ((3 * j : Nat) : Int) := by rw [show 3 * (j : Int) = ((3 * j : Nat) : Int) by omega]; exact IntWalk.i64_in _ (by omega)
  have hj := h
  go_enter Try.func10, Try.ntmps10
  go_wp2_with (go_at_call 15; (with_reducible refine (CC.out _).mono ?_); rintro _ _ ⟨rfl, rfl⟩)
  have k_c0 := cell_regrown c0
  have k_c1 := cell_regrown c1
  have k_c2 := cell_regrown c2
  refine wp_region_tail (n := 18) (by kernel_rfl) (by kernel_rfl) ?_
  simp only [List.take_succ_cons, List.take_zero, List.drop_succ_cons, List.drop_zero]
  repeat (first | go_big_quiet_step ((first | fail)) | quiet_step ((first | fail)))
  refine wpQuiet_nil ?_
  intro W hw'
  have B := below_regrown' hw'
  clear hw' k_c0 k_c1 k_c2
  replace BB := bon BB B
  replace c0 := cell_below B c0
  replace c1 := cell_below B c1
  replace c2 := cell_below B c2
  have X1 := X9.out.on (by decide) B
  refine eset3L triK X1 rfl rfl ?_
  intro V1 X2 B1 hc hf
  go_wp2
  have r0 := X2.cell (i := 0) rfl
  have r1 := X2.cell (i := 1) rfl
  have r2 := X2.cell (i := 2) rfl
  exact bodyPost_ret (v := .tuple #[.agg #[.int .i64 x, .int .i64 y, .int .i64 z], .bool true]) (by simp [results, Try.results10, go_sem, r0, r1, r2]) rfl ⟨rfl, BB.trans B1⟩

set_option maxRecDepth 100000 in
set_option maxHeartbeats 1000000 in
theorem tri_fan (A : Option Addr) (n c j : Nat) (l : List Int) (w : World) (R : Rd w w.heap.size .i64 A n l) (hn : n ≤ 9223372036854775800) (h : (j : Int) < cnt 3 n) :
    Calls Try.prog 10 #[.int .i64 3, .slice A n c, .int .i64 (j : Int)] w fun e w' => e = .returned (.tuple #[.agg #[.int .i64 (rg' l (0)), .int .i64 (rg' l (j + 1)), .int .i64 (rg' l (j + 2))], .bool true]) ∧ Below w.heap.size w w' := by
  have X0 := EBox.made w #[.int .i64 0, .int .i64 0, .int .i64 0] 24
  have BB := box_below w #[.int .i64 0, .int .i64 0, .int .i64 0] 24
  have CC := Lib.hid (fun W => cnt_q 3 n W (by omega) (by omega))
  have hin : 0 < n ∧ j + 1 < n ∧ j + 2 < n := by
    have := cor_in h
    simpa [cor] using this
  obtain ⟨i0, i1, i2⟩ := hin
  obtain ⟨b, off, x, rfl, c0, x0, x0', hx⟩ := (R.on BB).int i0
  obtain ⟨b1, off1, y, e1, c1, y0, y0', hy⟩ := (R.on BB).int i1
  obtain ⟨b2, off2, z, e2, c2, z0, z0', hz⟩ := (R.on BB).int i2
  injection e1 with e1; injection e1 with e1 e1'; subst e1; subst e1'
  injection e2 with e2; injection e2 with e2 e2'; subst e2; subst e2'
  rw [rg_at hx.out, rg_at hy.out, rg_at hz.out]
  obtain ⟨q, hq⟩ : ∃ q, cnt 3 n = q := ⟨_, rfl⟩
  rw [hq] at CC h
  have X9 := Lib.hid X0
  clear hx hy hz R hq X0
  rw [Nat.add_zero] at c0
  have hj := h
  go_enter Try.func10, Try.ntmps10
  go_wp2_with (go_at_call 15; (with_reducible refine (CC.out _).mono ?_); rintro _ _ ⟨rfl, rfl⟩)
  have k_c0 := cell_regrown c0
  have k_c1 := cell_regrown c1
  have k_c2 := cell_regrown c2
  refine wp_region_tail (n := 14) (by kernel_rfl) (by kernel_rfl) ?_
  simp only [List.take_succ_cons, List.take_zero, List.drop_succ_cons, List.drop_zero]
  repeat (first | go_big_quiet_step ((first | fail)) | quiet_step ((first | fail)))
  refine wpQuiet_nil ?_
  intro W hw'
  have B := below_regrown' hw'
  clear hw' k_c0 k_c1 k_c2
  replace BB := bon BB B
  replace c0 := cell_below B c0
  replace c1 := cell_below B c1
  replace c2 := cell_below B c2
  have X1 := X9.out.on (by decide) B
  refine eset3L triK X1 rfl rfl ?_
  intro V1 X2 B1 hc hf
  go_wp2
  have r0 := X2.cell (i := 0) rfl
  have r1 := X2.cell (i := 1) rfl
  have r2 := X2.cell (i := 2) rfl
  exact bodyPost_ret (v := .tuple #[.agg #[.int .i64 x, .int .i64 y, .int .i64 z], .bool true]) (by simp [results, Try.results10, go_sem, r0, r1, r2]) rfl ⟨rfl, BB.trans B1⟩

set_option maxRecDepth 100000 in
set_option maxHeartbeats 1000000 in
theorem tri_odd (A : Option Addr) (n c j : Nat) (l : List Int) (w : World) (R : Rd w w.heap.size .i64 A n l) (hn : n ≤ 9223372036854775800) (h : (j : Int) < cnt 2 n) (hp : j % 2 = 1) :
    Calls Try.prog 10 #[.int .i64 2, .slice A n c, .int .i64 (j : Int)] w fun e w' => e = .returned (.tuple #[.agg #[.int .i64 (rg' l (j)), .int .i64 (rg' l (j + 2)), .int .i64 (rg' l (j + 1))], .bool true]) ∧ Below w.heap.size w w' := by
  have X0 := EBox.made w #[.int .i64 0, .int .i64 0, .int .i64 0] 24
  have BB := box_below w #[.int .i64 0, .int .i64 0, .int .i64 0] 24
  have CC := Lib.hid (fun W => cnt_q 2 n W (by omega) (by omega))
  have hin : j < n ∧ j + 2 < n ∧ j + 1 < n := by
    have := cor_in h
    simpa [cor, hp] using this
  obtain ⟨i0, i1, i2⟩ := hin
  obtain ⟨b, off, x, rfl, c0, x0, x0', hx⟩ := (R.on BB).int i0
  obtain ⟨b1, off1, y, e1, c1, y0, y0', hy⟩ := (R.on BB).int i1
  obtain ⟨b2, off2, z, e2, c2, z0, z0', hz⟩ := (R.on BB).int i2
  injection e1 with e1; injection e1 with e1 e1'; subst e1; subst e1'
  injection e2 with e2; injection e2 with e2 e2'; subst e2; subst e2'
  rw [rg_at hx.out, rg_at hy.out, rg_at hz.out]
  obtain ⟨q, hq⟩ : ∃ q, cnt 2 n = q := ⟨_, rfl⟩
  rw [hq] at CC h
  have X9 := Lib.hid X0
  clear hx hy hz R hq X0
  have gp : ((j : Int) % 2 == 1) = true := by simp; omega
  have hj := h
  go_enter Try.func10, Try.ntmps10
  go_wp2_with (go_at_call 15; (with_reducible refine (CC.out _).mono ?_); rintro _ _ ⟨rfl, rfl⟩)
  have k_c0 := cell_regrown c0
  have k_c1 := cell_regrown c1
  have k_c2 := cell_regrown c2
  refine wp_region_tail (n := 15) (by kernel_rfl) (by kernel_rfl) ?_
  simp only [List.take_succ_cons, List.take_zero, List.drop_succ_cons, List.drop_zero]
  repeat (first | go_big_quiet_step ((first | fail)) | quiet_step ((first | fail)))
  refine wpQuiet_nil ?_
  intro W hw'
  have B := below_regrown' hw'
  clear hw' k_c0 k_c1 k_c2
  replace BB := bon BB B
  replace c0 := cell_below B c0
  replace c1 := cell_below B c1
  replace c2 := cell_below B c2
  have X1 := X9.out.on (by decide) B
  refine eset3L triK X1 rfl rfl ?_
  intro V1 X2 B1 hc hf
  go_wp2
  have r0 := X2.cell (i := 0) rfl
  have r1 := X2.cell (i := 1) rfl
  have r2 := X2.cell (i := 2) rfl
  exact bodyPost_ret (v := .tuple #[.agg #[.int .i64 x, .int .i64 y, .int .i64 z], .bool true]) (by simp [results, Try.results10, go_sem, r0, r1, r2]) rfl ⟨rfl, BB.trans B1⟩

set_option maxRecDepth 100000 in
set_option maxHeartbeats 1000000 in
theorem tri_even (A : Option Addr) (n c j : Nat) (l : List Int) (w : World) (R : Rd w w.heap.size .i64 A n l) (hn : n ≤ 9223372036854775800) (h : (j : Int) < cnt 2 n) (hp : j % 2 = 0) :
    Calls Try.prog 10 #[.int .i64 2, .slice A n c, .int .i64 (j : Int)] w fun e w' => e = .returned (.tuple #[.agg #[.int .i64 (rg' l (j)), .int .i64 (rg' l (j + 1)), .int .i64 (rg' l (j + 2))], .bool true]) ∧ Below w.heap.size w w' := by
  have X0 := EBox.made w #[.int .i64 0, .int .i64 0, .int .i64 0] 24
  have BB := box_below w #[.int .i64 0, .int .i64 0, .int .i64 0] 24
  have CC := Lib.hid (fun W => cnt_q 2 n W (by omega) (by omega))
  have hin : j < n ∧ j + 1 < n ∧ j + 2 < n := by
    have := cor_in h
    simpa [cor, hp] using this
  obtain ⟨i0, i1, i2⟩ := hin
  obtain ⟨b, off, x, rfl, c0, x0, x0', hx⟩ := (R.on BB).int i0
  obtain ⟨b1, off1, y, e1, c1, y0, y0', hy⟩ := (R.on BB).int i1
  obtain ⟨b2, off2, z, e2, c2, z0, z0', hz⟩ := (R.on BB).int i2
  injection e1 with e1; injection e1 with e1 e1'; subst e1; subst e1'
  injection e2 with e2; injection e2 with e2 e2'; subst e2; subst e2'
  rw [rg_at hx.out, rg_at hy.out, rg_at hz.out]
  obtain ⟨q, hq⟩ : ∃ q, cnt 2 n = q := ⟨_, rfl⟩
  rw [hq] at CC h
  have X9 := Lib.hid X0
  clear hx hy hz R hq X0
  have gp : ((j : Int) % 2 == 1) = false := by simp; omega
  have hj := h
  go_enter Try.func10, Try.ntmps10
  go_wp2_with (go_at_call 15; (with_reducible refine (CC.out _).mono ?_); rintro _ _ ⟨rfl, rfl⟩)
  have k_c0 := cell_regrown c0
  have k_c1 := cell_regrown c1
  have k_c2 := cell_regrown c2
  refine wp_region_tail (n := 15) (by kernel_rfl) (by kernel_rfl) ?_
  simp only [List.take_succ_cons, List.take_zero, List.drop_succ_cons, List.drop_zero]
  repeat (first | go_big_quiet_step ((first | fail)) | quiet_step ((first | fail)))
  refine wpQuiet_nil ?_
  intro W hw'
  have B := below_regrown' hw'
  clear hw' k_c0 k_c1 k_c2
  replace BB := bon BB B
  replace c0 := cell_below B c0
  replace c1 := cell_below B c1
  replace c2 := cell_below B c2
  have X1 := X9.out.on (by decide) B
  refine eset3L triK X1 rfl rfl ?_
  intro V1 X2 B1 hc hf
  go_wp2
  have r0 := X2.cell (i := 0) rfl
  have r1 := X2.cell (i := 1) rfl
  have r2 := X2.cell (i := 2) rfl
  exact bodyPost_ret (v := .tuple #[.agg #[.int .i64 x, .int .i64 y, .int .i64 z], .bool true]) (by simp [results, Try.results10, go_sem, r0, r1, r2]) rfl ⟨rfl, BB.trans B1⟩

set_option maxRecDepth 100000 in
theorem corners_list (j : Nat) (w : World) (hj : j ≤ 1152921504606846976) :
    Calls Try.prog 28 #[.int .i64 1, .int .i64 (j : Int)] w fun e w' => e = .returned (.agg #[.int .i64 ((3 * j : Nat) : Int), .int .i64 ((3 * j + 1 : Nat) : Int), .int .i64 ((3 * j + 2 : Nat) : Int)]) ∧ Below w.heap.size w w' := by
  have BB := box_below w #[.int .i64 0, .int .i64 0, .int .i64 0] 24
  have X0 := EBox.made w #[.int .i64 0, .int .i64 0, .int .i64 0] 24
  go_enter Try.func28, Try.ntmps28
  go_wp2
  have e0 : ∀ (a b c : Int), a = ((3 * j : Nat) : Int) → b = ((3 * j + 1 : Nat) : Int) → c = ((3 * j + 2 : Nat) : Int) → Ending.returned (Value.agg #[.int .i64 a, .int .i64 b, .int .i64 c]) = .returned (.agg #[.int .i64 ((3 * j : Nat) : Int), .int .i64 ((3 * j + 1 : Nat) : Int), .int .i64 ((3 * j + 2 : Nat) : Int)]) := fun a b c h1 h2 h3 => by rw [h1, h2, h3]
  exact bodyPost_ret (v := .agg #[.int .i64 (3 * (j : Int)), .int .i64 (3 * (j : Int) + 1), .int .i64 (3 * (j : Int) + 2)]) (by simp [results, Try.results28, go_sem]) rfl ⟨e0 _ _ _ (by omega) (by omega) (by omega), box_below _ _ _⟩

set_option maxRecDepth 100000 in
theorem corners_fan (j : Nat) (w : World) (hj : j ≤ 1152921504606846976) :
    Calls Try.prog 28 #[.int .i64 3, .int .i64 (j : Int)] w fun e w' => e = .returned (.agg #[.int .i64 ((0 : Nat) : Int), .int .i64 ((j + 1 : Nat) : Int), .int .i64 ((j + 2 : Nat) : Int)]) ∧ Below w.heap.size w w' := by
  have BB := box_below w #[.int .i64 0, .int .i64 0, .int .i64 0] 24
  have X0 := EBox.made w #[.int .i64 0, .int .i64 0, .int .i64 0] 24
  go_enter Try.func28, Try.ntmps28
  go_wp2
  have e0 : ∀ (a b c : Int), a = ((0 : Nat) : Int) → b = ((j + 1 : Nat) : Int) → c = ((j + 2 : Nat) : Int) → Ending.returned (Value.agg #[.int .i64 a, .int .i64 b, .int .i64 c]) = .returned (.agg #[.int .i64 ((0 : Nat) : Int), .int .i64 ((j + 1 : Nat) : Int), .int .i64 ((j + 2 : Nat) : Int)]) := fun a b c h1 h2 h3 => by rw [h1, h2, h3]
  exact bodyPost_ret (v := .agg #[.int .i64 (0), .int .i64 ((j : Int) + 1), .int .i64 ((j : Int) + 2)]) (by simp [results, Try.results28, go_sem]) rfl ⟨e0 _ _ _ (by omega) (by omega) (by omega), box_below _ _ _⟩

set_option maxRecDepth 100000 in
theorem corners_even (j : Nat) (w : World) (hj : j ≤ 1152921504606846976) (hp : j % 2 = 0) :
    Calls Try.prog 28 #[.int .i64 2, .int .i64 (j : Int)] w fun e w' => e = .returned (.agg #[.int .i64 ((j : Nat) : Int), .int .i64 ((j + 1 : Nat) : Int), .int .i64 ((j + 2 : Nat) : Int)]) ∧ Below w.heap.size w w' := by
  have BB := box_below w #[.int .i64 0, .int .i64 0, .int .i64 0] 24
  have X0 := EBox.made w #[.int .i64 0, .int .i64 0, .int .i64 0] 24
  have gp : ((j : Int) % 2 == 0) = true := by simp; omega
  go_enter Try.func28, Try.ntmps28
  go_wp2
  have e0 : ∀ (a b c : Int), a = ((j : Nat) : Int) → b = ((j + 1 : Nat) : Int) → c = ((j + 2 : Nat) : Int) → Ending.returned (Value.agg #[.int .i64 a, .int .i64 b, .int .i64 c]) = .returned (.agg #[.int .i64 ((j : Nat) : Int), .int .i64 ((j + 1 : Nat) : Int), .int .i64 ((j + 2 : Nat) : Int)]) := fun a b c h1 h2 h3 => by rw [h1, h2, h3]
  exact bodyPost_ret (v := .agg #[.int .i64 ((j : Int)), .int .i64 ((j : Int) + 1), .int .i64 ((j : Int) + 2)]) (by simp [results, Try.results28, go_sem]) rfl ⟨e0 _ _ _ (by omega) (by omega) (by omega), box_below _ _ _⟩

set_option maxRecDepth 100000 in
theorem corners_odd (j : Nat) (w : World) (hj : j ≤ 1152921504606846976) (hp : j % 2 = 1) :
    Calls Try.prog 28 #[.int .i64 2, .int .i64 (j : Int)] w fun e w' => e = .returned (.agg #[.int .i64 ((j : Nat) : Int), .int .i64 ((j + 2 : Nat) : Int), .int .i64 ((j + 1 : Nat) : Int)]) ∧ Below w.heap.size w w' := by
  have BB := box_below w #[.int .i64 0, .int .i64 0, .int .i64 0] 24
  have X0 := EBox.made w #[.int .i64 0, .int .i64 0, .int .i64 0] 24
  have gp : ((j : Int) % 2 == 0) = false := by simp; omega
  go_enter Try.func28, Try.ntmps28
  go_wp2
  have e0 : ∀ (a b c : Int), a = ((j : Nat) : Int) → b = ((j + 2 : Nat) : Int) → c = ((j + 1 : Nat) : Int) → Ending.returned (Value.agg #[.int .i64 a, .int .i64 b, .int .i64 c]) = .returned (.agg #[.int .i64 ((j : Nat) : Int), .int .i64 ((j + 2 : Nat) : Int), .int .i64 ((j + 1 : Nat) : Int)]) := fun a b c h1 h2 h3 => by rw [h1, h2, h3]
  exact bodyPost_ret (v := .agg #[.int .i64 ((j : Int)), .int .i64 ((j : Int) + 2), .int .i64 ((j : Int) + 1)]) (by simp [results, Try.results28, go_sem]) rfl ⟨e0 _ _ _ (by omega) (by omega) (by omega), box_below _ _ _⟩

theorem cor_le {t : Int} {j : Nat} (hj : j ≤ 1152921504606846976) : True := trivial

theorem corners_b (t : Int) (j : Nat) (w : World) (hj : j ≤ 1152921504606846976) (ht : tvalid t) :
    Calls Try.prog 28 #[.int .i64 t, .int .i64 (j : Int)] w fun e w' => e = .returned (.agg #[.int .i64 ((cor t j).1 : Nat), .int .i64 ((cor t j).2.1 : Nat), .int .i64 ((cor t j).2.2 : Nat)]) ∧ Below w.heap.size w w' := by
  rcases ht with rfl | rfl | rfl
  · exact corners_list j w hj
  · by_cases hp : j % 2 = 0
    · rw [show cor 2 j = (j, j + 1, j + 2) by simp [cor, hp]]; exact corners_even j w hj hp
    · rw [show cor 2 j = (j, j + 2, j + 1) by simp [cor, hp]]; exact corners_odd j w hj (by omega)
  · exact corners_fan j w hj

set_option maxRecDepth 100000 in
set_option maxHeartbeats 1000000 in
theorem rtri_yes (A : Option Addr) (n c j : Nat) (l : List Int) (t : Int) (w : World) (R : Rd w w.heap.size .i64 A n l) (hn : n ≤ 1152921504606846976) (h : (j : Int) < cnt t n) (ht : tvalid t) :
    Calls Try.prog 11 #[.int .i64 t, .slice A n c, .int .i64 (j : Int)] w fun e w' => e = .returned (.tuple #[.agg #[.int .i64 (trv t l j).x, .int .i64 (trv t l j).y, .int .i64 (trv t l j).z], .bool true]) ∧ Below w.heap.size w w' := by
  have X0 := EBox.made w #[.int .i64 0, .int .i64 0, .int .i64 0] 24
  have BB := box_below w #[.int .i64 0, .int .i64 0, .int .i64 0] 24
  have CC := Lib.hid (fun W => rcnt_q t n W (by omega) (by omega))
  have hc := (cnt_le t n (by omega)).2
  have CR := Lib.hid (fun W => corners_b t j W (by omega) ht)
  obtain ⟨i0, i1, i2⟩ := cor_in h
  unfold trv
  obtain ⟨⟨p0, p1, p2⟩, hp⟩ : ∃ p, cor t j = p := ⟨_, rfl⟩
  rw [hp] at CR i0 i1 i2 ⊢
  simp only at CR i0 i1 i2 ⊢
  obtain ⟨b, off, x, rfl, c0, x0, x0', hx⟩ := (R.on BB).int i0
  obtain ⟨b1, off1, y, e1, c1, y0, y0', hy⟩ := (R.on BB).int i1
  obtain ⟨b2, off2, z, e2, c2, z0, z0', hz⟩ := (R.on BB).int i2
  injection e1 with e1; injection e1 with e1 e1'; subst e1; subst e1'
  injection e2 with e2; injection e2 with e2 e2'; subst e2; subst e2'
  rw [rg_at hx.out, rg_at hy.out, rg_at hz.out]
  obtain ⟨q, hq⟩ : ∃ q, cnt t n = q := ⟨_, rfl⟩
  rw [hq] at CC h hc
  have X9 := Lib.hid X0
  clear hx hy hz R hq X0 hp ht
  go_enter Try.func11, Try.ntmps11
  go_wp2_with (first
    | (go_at_call 16; (with_reducible refine (CC.out _).mono ?_); rintro _ _ ⟨rfl, rfl⟩)
    | (go_at_call 28; (with_reducible refine (CR.out _).mono ?_); rintro _ W2 ⟨rfl, B⟩; (replace BB := bon BB B; replace c0 := cell_below B c0; replace c1 := cell_below B c1; replace c2 := cell_below B c2); have X8 := Lib.hid (X9.out.on (by decide) B); have BX := box_below W2 #[.int .i64 (p0 : Int), .int .i64 (p1 : Int), .int .i64 (p2 : Int)] 24; have d0 := box_cell W2 #[.int .i64 (p0 : Int), .int .i64 (p1 : Int), .int .i64 (p2 : Int)] 24 0 _ rfl; have d1 := box_cell W2 #[.int .i64 (p0 : Int), .int .i64 (p1 : Int), .int .i64 (p2 : Int)] 24 1 _ rfl; have d2 := box_cell W2 #[.int .i64 (p0 : Int), .int .i64 (p1 : Int), .int .i64 (p2 : Int)] 24 2 _ rfl; replace X8 := Lib.hid (X8.out.on (by decide) BX); replace c0 := cell_below BX c0; replace c1 := cell_below BX c1; replace c2 := cell_below BX c2; replace BB := bon BB BX; clear X9 BX B)
    | ((with_reducible refine estore3L triK ?_ ?_ ?_ ?_); focus rfl; focus rfl; focus rfl))
  have k_c0 := cell_regrown c0
  have k_c1 := cell_regrown c1
  have k_c2 := cell_regrown c2
  have k_d0 := cell_regrown d0
  have k_d1 := cell_regrown d1
  have k_d2 := cell_regrown d2
  refine wp_region_tail (n := 16) (by kernel_rfl) (by kernel_rfl) ?_
  simp only [List.take_succ_cons, List.take_zero, List.drop_succ_cons, List.drop_zero]
  repeat (first | go_big_quiet_step ((first | fail)) | quiet_step ((first | fail)))
  refine wpQuiet_nil ?_
  intro W hw'
  have B := below_regrown' hw'
  clear hw' k_c0 k_c1 k_c2 k_d0 k_d1 k_d2
  replace BB := bon BB B
  replace c0 := cell_below B c0
  replace c1 := cell_below B c1
  replace c2 := cell_below B c2
  replace d0 := cell_below B d0
  replace d1 := cell_below B d1
  replace d2 := cell_below B d2
  have X1 := X8.out.on (by decide) B
  refine eset3L triK X1 rfl rfl ?_
  intro V1 X2 B1 hc hf
  go_wp2
  have r0 := X2.cell (i := 0) rfl
  have r1 := X2.cell (i := 1) rfl
  have r2 := X2.cell (i := 2) rfl
  exact bodyPost_ret (v := .tuple #[.agg #[.int .i64 x, .int .i64 y, .int .i64 z], .bool true]) (by simp [results, Try.results11, go_sem, r0, r1, r2]) rfl ⟨rfl, BB.trans B1⟩

theorem tri_b (A : Option Addr) (n c : Nat) (l : List Int) (t i : Int) (w : World) (R : Rd w w.heap.size .i64 A n l) (hn : n ≤ 1152921504606846976) :
    Calls Try.prog 10 #[.int .i64 t, .slice A n c, .int .i64 i] w fun e w' => e = .returned (.tuple #[.agg #[.int .i64 (trf t l i).x, .int .i64 (trf t l i).y, .int .i64 (trf t l i).z], .bool (trb t n i)]) ∧ Below w.heap.size w w' := by
  by_cases h : 0 ≤ i ∧ i < cnt t n
  · obtain ⟨j, rfl⟩ : ∃ j : Nat, i = j := ⟨i.toNat, by omega⟩
    have ht : tvalid t := Classical.byContradiction fun q => by
      have : cnt t n = 0 := by unfold cnt; rw [if_pos (.inr q)]
      omega
    rw [show trf t l (j : Int) = trv t l j by unfold trf; rw [R.len, if_pos h, Int.toNat_natCast], show trb t n (j : Int) = true from decide_eq_true h]
    rcases ht with rfl | rfl | rfl
    · exact tri_list A n c j l w R (by omega) h.2
    · by_cases hp : j % 2 = 0
      · rw [show trv 2 l j = ⟨rg' l j, rg' l (j + 1), rg' l (j + 2)⟩ by simp [trv, cor, hp]]; exact tri_even A n c j l w R (by omega) h.2 hp
      · rw [show trv 2 l j = ⟨rg' l j, rg' l (j + 2), rg' l (j + 1)⟩ by simp [trv, cor, hp]]; exact tri_odd A n c j l w R (by omega) h.2 (by omega)
    · exact tri_fan A n c j l w R (by omega) h.2
  · exact tri_no A n c l t i w R.len (by omega) h

theorem rtri_b (A : Option Addr) (n c : Nat) (l : List Int) (t i : Int) (w : World) (R : Rd w w.heap.size .i64 A n l) (hn : n ≤ 1152921504606846976) :
    Calls Try.prog 11 #[.int .i64 t, .slice A n c, .int .i64 i] w fun e w' => e = .returned (.tuple #[.agg #[.int .i64 (trf t l i).x, .int .i64 (trf t l i).y, .int .i64 (trf t l i).z], .bool (trb t n i)]) ∧ Below w.heap.size w w' := by
  by_cases h : 0 ≤ i ∧ i < cnt t n
  · obtain ⟨j, rfl⟩ : ∃ j : Nat, i = j := ⟨i.toNat, by omega⟩
    have ht : tvalid t := Classical.byContradiction fun q => by
      have : cnt t n = 0 := by unfold cnt; rw [if_pos (.inr q)]
      omega
    rw [show trf t l (j : Int) = trv t l j by unfold trf; rw [R.len, if_pos h, Int.toNat_natCast], show trb t n (j : Int) = true from decide_eq_true h]
    exact rtri_yes A n c j l t w R hn h.2 ht
  · exact rtri_no A n c l t i w R.len (by omega) h

end Go.Proofs.Ytepammildggnmaa
