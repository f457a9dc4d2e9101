/- The walk of BlendOver. -/
import Derived.Test.YtainijafljpiaaaBL8
import Derived.Test.YtainijafljpiaaaMix
import Derived.Test.YtainijafljpiaaaSet
namespace Go.Proofs.Ytainijafljpiaaa
set_option linter.unusedSimpArgs false
open Go.RowKit Go.Sort Go.ChangeShapes Go.WideShapes
set_option linter.unusedVariables false

theorem mulv_unit (s a : Int) (h1 : 0 ≤ s) (h2 : s ≤ 65536) (h3 : 0 ≤ a) (h4 : a ≤ 65536) : 0 ≤ mulv s a ∧ mulv s a ≤ a := by
  have e1 : 0 ≤ s * a := Int.mul_nonneg h1 h3
  have e2 : s * a ≤ 65536 * a := Int.mul_le_mul_of_nonneg_right h2 h3
  have key : mulv s a = rdv (s * a) 65536 := by
    unfold mulv
    rw [sat_id s (by omega) (by omega), sat_id a (by omega) (by omega), rda_in _ _ (by omega) (by omega) (by omega) (by omega)]
    have := rdv_near (s * a) 65536 (by omega) e1
    exact sat_id _ (by omega) (by omega)
  have := rdv_near (s * a) 65536 (by omega) e1
  omega

theorem over_bd (s t a : Int) (h1 : 0 ≤ s) (h2 : s ≤ 65536) (h3 : 0 ≤ t) (h4 : t ≤ 65536) (h5 : 0 ≤ a) (h6 : a ≤ 65536) : 0 ≤ combv 1 s a t (subv 65536 a) ∧ combv 1 s a t (subv 65536 a) ≤ 65537 := by
  have e : subv 65536 a = 65536 - a := by
    unfold subv
    rw [sat_id a (by omega) (by omega), show sat 65536 = 65536 from rfl]
    exact sat_id _ (by omega) (by omega)
  rw [e, show combv 1 s a t (65536 - a) = addv (mulv s a) (mulv t (65536 - a)) by simp [combv]]
  have m1 := mulv_unit s a h1 h2 h5 h6
  have m2 := mulv_unit t (65536 - a) h3 h4 (by omega) (by omega)
  unfold addv
  rw [sat_id (mulv s a) (by omega) (by omega), sat_id (mulv t (65536 - a)) (by omega) (by omega), sat_id _ (by omega) (by omega)]
  omega

theorem over_blend (s0 s1 s2 s3 t0 t1 t2 t3 c0 c1 c2 d : Int) (h0 : combv 1 s0 s3 t0 (subv 65536 s3) = c0) (h1 : combv 1 s1 s3 t1 (subv 65536 s3) = c1) (h2 : combv 1 s2 s3 t2 (subv 65536 s3) = c2) (h3 : sat s3 = d) (w : World) : Calls Try.prog 10 #[.agg #[.bool true, .int .i64 5, .int .i64 6, .int .i64 1, .int .i64 2, .int .i64 1, .int .i64 1, .int .i64 15], .agg #[.int .i64 s0, .int .i64 s1, .int .i64 s2, .int .i64 s3], .agg #[.int .i64 t0, .int .i64 t1, .int .i64 t2, .int .i64 t3]] w fun e w' => e = .returned (.agg #[.int .i64 c0, .int .i64 c1, .int .i64 c2, .int .i64 d]) ∧ Below w.heap.size w w' := by
  subst h0 h1 h2 h3
  exact blend_on 5 6 1 2 1 1 15 s0 s1 s2 s3 t0 t1 t2 t3 s3 s3 s3 s3 (subv 65536 s3) (subv 65536 s3) (subv 65536 s3) (subv 65536 s3) 65536 65536 65536 65536 0 0 0 0 _ _ _ (combv 1 s3 s3 t3 (subv 65536 s3)) (sat s0) (sat s1) (sat s2) (sat s3)
    (Lib.hid fun W => factor_at 5 s0 s1 s2 s3 t0 t1 t2 t3 s3 s3 s3 s3 (by simp [facv]) (by simp [facv]) (by simp [facv]) (by simp [facv]) W) (Lib.hid fun W => factor_at 6 s0 s1 s2 s3 t0 t1 t2 t3 (subv 65536 s3) (subv 65536 s3) (subv 65536 s3) (subv 65536 s3) (by simp [facv]) (by simp [facv]) (by simp [facv]) (by simp [facv]) W) (Lib.hid fun W => factor_at 2 s0 s1 s2 s3 t0 t1 t2 t3 65536 65536 65536 65536 (by simp [facv]) (by simp [facv]) (by simp [facv]) (by simp [facv]) W) (Lib.hid fun W => factor_at 1 s0 s1 s2 s3 t0 t1 t2 t3 0 0 0 0 (by simp [facv]) (by simp [facv]) (by simp [facv]) (by simp [facv]) W)
    (Lib.hid fun W => combined_at 1 s0 s1 s2 s3 s3 s3 s3 s3 t0 t1 t2 t3 (subv 65536 s3) (subv 65536 s3) (subv 65536 s3) (subv 65536 s3) _ _ _ _ rfl rfl rfl rfl W)
    (Lib.hid fun W => combined_at 1 s0 s1 s2 s3 65536 65536 65536 65536 t0 t1 t2 t3 0 0 0 0 (sat s0) (sat s1) (sat s2) (sat s3) (comb_src _ _) (comb_src _ _) (comb_src _ _) (comb_src _ _) W) w

def min4 (a b c d : Int) : Int := min (min (min a b) c) d

def max4 (a b c d : Int) : Int := max (max (max a b) c) d

theorem min_is4 (x y z u : Int) (ts : Array TypeId) (t : TypeId) (w : World) : (Builtin.min_ ts t #[.int .i64 x, .int .i64 y, .int .i64 z, .int .i64 u]).run Try.prog w = .ok (.int .i64 (min4 x y z u)) w := by
  simp [Builtin.min_, Builtin.min2]
  unfold min4
  repeat (first | omega | split)

theorem max_is4 (x y z u : Int) (ts : Array TypeId) (t : TypeId) (w : World) : (Builtin.max_ ts t #[.int .i64 x, .int .i64 y, .int .i64 z, .int .i64 u]).run Try.prog w = .ok (.int .i64 (max4 x y z u)) w := by
  simp [Builtin.max_, Builtin.max2]
  unfold max4
  repeat (first | omega | split)

def unitv (a b c d : Int) : Bool := decide (0 ≤ min4 a b c d) && decide (max4 a b c d ≤ 65536)

theorem unit_b (s0 s1 s2 s3 : Int) (w : World) : Calls Try.prog 18 #[.agg #[.int .i64 s0, .int .i64 s1, .int .i64 s2, .int .i64 s3]] w fun e w' => e = .returned (.bool (unitv s0 s1 s2 s3)) ∧ Below w.heap.size w w' := by
  have BB := box_below w #[.int .i64 s0, .int .i64 s1, .int .i64 s2, .int .i64 s3] 27
  have mn := fun x y z u ts t w => min_is4 x y z u ts t w
  have mx := fun x y z u ts t w => max_is4 x y z u ts t w
  unfold unitv
  go_enter Try.func18, Try.ntmps18
  go_wp2
  all_goals go_ret
  all_goals exact ⟨ret_bool (by first | (simp_all; done) | (simp_all; omega)), BB⟩

theorem unit_at (s0 s1 s2 s3 : Int) (v : Bool) (h : unitv s0 s1 s2 s3 = v) (w : World) : Calls Try.prog 18 #[.agg #[.int .i64 s0, .int .i64 s1, .int .i64 s2, .int .i64 s3]] w fun e w' => e = .returned (.bool v) ∧ Below w.heap.size w w' := h ▸ unit_b s0 s1 s2 s3 w

set_option maxRecDepth 100000 in
set_option maxHeartbeats 2000000 in
theorem over_no (s0 s1 s2 s3 t0 t1 t2 t3 : Int) (h : unitv s0 s1 s2 s3 = false ∨ unitv t0 t1 t2 t3 = false) (w : World) : Calls Try.prog 7 #[.agg #[.int .i64 s0, .int .i64 s1, .int .i64 s2, .int .i64 s3], .agg #[.int .i64 t0, .int .i64 t1, .int .i64 t2, .int .i64 t3]] w fun e w' => e = .returned (.bool true) ∧ Below w.heap.size w w' := by
  have BB := box_below w #[.int .i64 s0, .int .i64 s1, .int .i64 s2, .int .i64 s3] 27
  have X0 := EBox.made w #[.int .i64 s0, .int .i64 s1, .int .i64 s2, .int .i64 s3] 27
  have hsz1 : (w.alloc (.cells #[.int .i64 s0, .int .i64 s1, .int .i64 s2, .int .i64 s3] 27)).heap.size = w.heap.size + 1 := by simp
  have X1 := EBox.made (w.alloc (.cells #[.int .i64 s0, .int .i64 s1, .int .i64 s2, .int .i64 s3] 27)) #[.int .i64 t0, .int .i64 t1, .int .i64 t2, .int .i64 t3] 27
  rw [hsz1] at X1
  replace X0 := X0.on (Nat.succ_pos _) (box_below (w.alloc (.cells #[.int .i64 s0, .int .i64 s1, .int .i64 s2, .int .i64 s3] 27)) #[.int .i64 t0, .int .i64 t1, .int .i64 t2, .int .i64 t3] 27)
  replace BB := bon BB (box_below (w.alloc (.cells #[.int .i64 s0, .int .i64 s1, .int .i64 s2, .int .i64 s3] 27)) #[.int .i64 t0, .int .i64 t1, .int .i64 t2, .int .i64 t3] 27)
  clear hsz1
  have a3 := X0.cell (i := 3) rfl
  have Ev4_0 := range_cut X0.1 0 4
  simp only [List.drop_succ_cons, List.drop_zero, List.take_succ_cons, List.take_zero, Nat.zero_add] at Ev4_0
  have b0 := X1.cell (i := 0) rfl
  have b1 := X1.cell (i := 1) rfl
  have b2 := X1.cell (i := 2) rfl
  have Ev4_1 := range_cut X1.1 0 4
  simp only [List.drop_succ_cons, List.drop_zero, List.take_succ_cons, List.take_zero, Nat.zero_add] at Ev4_1
  clear X0 X1
  clear a3 b0 b1 b2
  cases hs : unitv s0 s1 s2 s3
  · have CS := Lib.hid (fun W => unit_at s0 s1 s2 s3 false hs W)
    clear hs h
    go_enter Try.func7, Try.ntmps7
    go_wp2_with (first
    | ((with_reducible refine eload4L rk_v4 Ev4_0 ?_ ?_); focus rfl) | (refine wpList_ungd rfl ?_; (with_reducible refine eload4L rk_v4 Ev4_0 ?_ ?_); focus rfl)
    | (go_at_call 18; (with_reducible refine (CS.out _).mono ?_); rintro _ W1 ⟨rfl, B⟩; replace BB := bon BB B; skip; clear B)
    | (go_at_call 12; (with_reducible refine (example40_b _).mono ?_); rintro _ W5 ⟨rfl, B⟩; replace BB := bon BB B; skip; clear B))
    go_ret
    exact ⟨rfl, BB⟩
  · have ht : unitv t0 t1 t2 t3 = false := by rcases h with h | h; rw [hs] at h; cases h; exact h
    have CS := Lib.hid (fun W => unit_at s0 s1 s2 s3 true hs W)
    have CT := Lib.hid (fun W => unit_at t0 t1 t2 t3 false ht W)
    clear hs h ht
    go_enter Try.func7, Try.ntmps7
    go_wp2_with (first
    | ((with_reducible refine eload4L rk_v4 Ev4_0 ?_ ?_); focus rfl) | (refine wpList_ungd rfl ?_; (with_reducible refine eload4L rk_v4 Ev4_0 ?_ ?_); focus rfl)
    | ((with_reducible refine eload4L rk_v4 Ev4_1 ?_ ?_); focus rfl) | (refine wpList_ungd rfl ?_; (with_reducible refine eload4L rk_v4 Ev4_1 ?_ ?_); focus rfl)
    | (go_at_call 18; (with_reducible refine (CS.out _).mono ?_); rintro _ W1 ⟨rfl, B⟩; replace BB := bon BB B; replace Ev4_1 := rangeAt_on Ev4_1 (B); clear B)
    | (go_at_call 18; (with_reducible refine (CT.out _).mono ?_); rintro _ W2 ⟨rfl, B⟩; replace BB := bon BB B; skip; clear B)
    | (go_at_call 12; (with_reducible refine (example40_b _).mono ?_); rintro _ W5 ⟨rfl, B⟩; replace BB := bon BB B; skip; clear B))
    go_ret
    exact ⟨rfl, BB⟩

set_option maxRecDepth 100000 in
set_option maxHeartbeats 4000000 in
theorem over_yes (s0 s1 s2 s3 t0 t1 t2 t3 c0 c1 c2 : Int) (hs : unitv s0 s1 s2 s3 = true) (ht : unitv t0 t1 t2 t3 = true)
    (CB : Hid (∀ w : World, Calls Try.prog 10 #[.agg #[.bool true, .int .i64 5, .int .i64 6, .int .i64 1, .int .i64 2, .int .i64 1, .int .i64 1, .int .i64 15], .agg #[.int .i64 s0, .int .i64 s1, .int .i64 s2, .int .i64 s3], .agg #[.int .i64 t0, .int .i64 t1, .int .i64 t2, .int .i64 t3]] w fun e w' => e = .returned (.agg #[.int .i64 c0, .int .i64 c1, .int .i64 c2, .int .i64 s3]) ∧ Below w.heap.size w w')) (CO : Hid (∀ w : World, Calls Try.prog 10 #[.agg #[.bool true, .int .i64 5, .int .i64 6, .int .i64 1, .int .i64 2, .int .i64 1, .int .i64 1, .int .i64 15], .agg #[.int .i64 s0, .int .i64 s1, .int .i64 s2, .int .i64 65536], .agg #[.int .i64 t0, .int .i64 t1, .int .i64 t2, .int .i64 t3]] w fun e w' => e = .returned (.agg #[.int .i64 s0, .int .i64 s1, .int .i64 s2, .int .i64 65536]) ∧ Below w.heap.size w w')) (CK : Hid (∀ w : World, Calls Try.prog 10 #[.agg #[.bool true, .int .i64 5, .int .i64 6, .int .i64 1, .int .i64 2, .int .i64 1, .int .i64 1, .int .i64 15], .agg #[.int .i64 s0, .int .i64 s1, .int .i64 s2, .int .i64 0], .agg #[.int .i64 t0, .int .i64 t1, .int .i64 t2, .int .i64 t3]] w fun e w' => e = .returned (.agg #[.int .i64 t0, .int .i64 t1, .int .i64 t2, .int .i64 0]) ∧ Below w.heap.size w w'))
    (h0 : 0 ≤ c0 ∧ c0 ≤ 65537) (h1 : 0 ≤ c1 ∧ c1 ≤ 65537) (h2 : 0 ≤ c2 ∧ c2 ≤ 65537) (w : World) : Calls Try.prog 7 #[.agg #[.int .i64 s0, .int .i64 s1, .int .i64 s2, .int .i64 s3], .agg #[.int .i64 t0, .int .i64 t1, .int .i64 t2, .int .i64 t3]] w fun e w' => e = .returned (.bool true) ∧ Below w.heap.size w w' := by
  have BB := box_below w #[.int .i64 s0, .int .i64 s1, .int .i64 s2, .int .i64 s3] 27
  have X0 := EBox.made w #[.int .i64 s0, .int .i64 s1, .int .i64 s2, .int .i64 s3] 27
  have hsz1 : (w.alloc (.cells #[.int .i64 s0, .int .i64 s1, .int .i64 s2, .int .i64 s3] 27)).heap.size = w.heap.size + 1 := by simp
  have X1 := EBox.made (w.alloc (.cells #[.int .i64 s0, .int .i64 s1, .int .i64 s2, .int .i64 s3] 27)) #[.int .i64 t0, .int .i64 t1, .int .i64 t2, .int .i64 t3] 27
  rw [hsz1] at X1
  replace X0 := X0.on (Nat.succ_pos _) (box_below (w.alloc (.cells #[.int .i64 s0, .int .i64 s1, .int .i64 s2, .int .i64 s3] 27)) #[.int .i64 t0, .int .i64 t1, .int .i64 t2, .int .i64 t3] 27)
  replace BB := bon BB (box_below (w.alloc (.cells #[.int .i64 s0, .int .i64 s1, .int .i64 s2, .int .i64 s3] 27)) #[.int .i64 t0, .int .i64 t1, .int .i64 t2, .int .i64 t3] 27)
  clear hsz1
  have a3 := X0.cell (i := 3) rfl
  have Ev4_0 := range_cut X0.1 0 4
  simp only [List.drop_succ_cons, List.drop_zero, List.take_succ_cons, List.take_zero, Nat.zero_add] at Ev4_0
  have b0 := X1.cell (i := 0) rfl
  have b1 := X1.cell (i := 1) rfl
  have b2 := X1.cell (i := 2) rfl
  have Ev4_1 := range_cut X1.1 0 4
  simp only [List.drop_succ_cons, List.drop_zero, List.take_succ_cons, List.take_zero, Nat.zero_add] at Ev4_1
  clear X0 X1
  have CS := Lib.hid (fun W => unit_at s0 s1 s2 s3 true hs W)
  have CT := Lib.hid (fun W => unit_at t0 t1 t2 t3 true ht W)
  have e0 : decide (c0 < 0) = false := decide_eq_false (by omega)
  have e1 : decide (c1 < 0) = false := decide_eq_false (by omega)
  have e2 : decide (c2 < 0) = false := decide_eq_false (by omega)
  have f0 : decide (65537 < c0) = false := decide_eq_false (by omega)
  have f1 : decide (65537 < c1) = false := decide_eq_false (by omega)
  have f2 : decide (65537 < c2) = false := decide_eq_false (by omega)
  obtain ⟨g0, g1⟩ := h0
  obtain ⟨g2, g3⟩ := h1
  obtain ⟨g4, g5⟩ := h2
  clear hs ht
  go_enter Try.func7, Try.ntmps7
  go_wp2_with (first
    | ((with_reducible refine eload4L rk_v4 Ev4_0 ?_ ?_); focus rfl) | (refine wpList_ungd rfl ?_; (with_reducible refine eload4L rk_v4 Ev4_0 ?_ ?_); focus rfl)
    | ((with_reducible refine eload4L rk_v4 Ev4_1 ?_ ?_); focus rfl) | (refine wpList_ungd rfl ?_; (with_reducible refine eload4L rk_v4 Ev4_1 ?_ ?_); focus rfl)
    | (go_at_call 18; (with_reducible refine (CS.out _).mono ?_); rintro _ W1 ⟨rfl, B⟩; replace BB := bon BB B; replace Ev4_0 := rangeAt_on Ev4_0 (B); replace Ev4_1 := rangeAt_on Ev4_1 (B); replace a3 := cell_below (B) a3; replace b0 := cell_below (B) b0; replace b1 := cell_below (B) b1; replace b2 := cell_below (B) b2; clear B)
    | (go_at_call 18; (with_reducible refine (CT.out _).mono ?_); rintro _ W2 ⟨rfl, B⟩; replace BB := bon BB B; replace Ev4_0 := rangeAt_on Ev4_0 (B); replace Ev4_1 := rangeAt_on Ev4_1 (B); replace a3 := cell_below (B) a3; replace b0 := cell_below (B) b0; replace b1 := cell_below (B) b1; replace b2 := cell_below (B) b2; clear B))
  refine wp_region_mix1 (af := ?afo) 4 (by kernel_rfl) zero_v4 (Nat.succ_pos _) rfl (by kernel_rfl) (by kernel_rfl) ?h1o ?h2o
  case h1o =>
    intro U9 BU9
    simp only [List.take_succ_cons, List.take_zero]
    replace Ev4_0 := rangeAt_on Ev4_0 (BU9)
    replace Ev4_1 := rangeAt_on Ev4_1 (BU9)
    replace a3 := cell_below (BU9) a3
    replace b0 := cell_below (BU9) b0
    replace b1 := cell_below (BU9) b1
    replace b2 := cell_below (BU9) b2
    have k_a3 := cell_regrown a3
    have k_b0 := cell_regrown b0
    have k_b1 := cell_regrown b1
    have k_b2 := cell_regrown b2
    repeat (first | ((try simp only [List.getElem_toArray, List.getElem_cons_succ, List.getElem_cons_zero]); go_big_quiet_want; refine quiet_eload _ _ rfl rk_v4 rfl (fun W hW => rangeAt_on Ev4_0 (below_regrown' hW)) rfl ?_; go_simp; go_big_quiet_on) | ((try simp only [List.getElem_toArray, List.getElem_cons_succ, List.getElem_cons_zero]); go_big_quiet_want; refine quiet_eload _ _ rfl rk_v4 rfl (fun W hW => rangeAt_on Ev4_1 (below_regrown' hW)) rfl ?_; go_simp; go_big_quiet_on) | ((try simp only [List.getElem_toArray, List.getElem_cons_succ, List.getElem_cons_zero]); go_big_quiet_step ((first | (go_at_call 19; with_reducible exact Calls.regrown_of (over_q _)) | (go_at_call 10; with_reducible exact Calls.regrown_of (CB.out _))))) | ((try simp only [List.getElem_toArray, List.getElem_cons_succ, List.getElem_cons_zero]); quiet_step ((first | (go_at_call 19; with_reducible exact Calls.regrown_of (over_q _)) | (go_at_call 10; with_reducible exact Calls.regrown_of (CB.out _))))))
    refine wpQuiet_nil ?_
    rfl
  intro bc V0 lbc BT9 Xbc
  refine tree_one rfl ?_
  refine esetL (vs := [.int .i64 c0, .int .i64 c1, .int .i64 c2, .int .i64 s3]) rk_v4 rfl rfl Xbc rfl rfl (by simp [Value.oneCell']) ?_
  intro V1 Ybc B9 hc9 hf9
  replace BT9 := BT9.trans (B9.mono lbc)
  replace Xbc := Ybc
  clear B9 hc9 hf9
  refine ⟨BT9, ?_⟩
  refine tree_nil ?_
  replace Ev4_0 := rangeAt_on Ev4_0 (BT9)
  replace Ev4_1 := rangeAt_on Ev4_1 (BT9)
  replace a3 := cell_below (BT9) a3
  replace b0 := cell_below (BT9) b0
  replace b1 := cell_below (BT9) b1
  replace b2 := cell_below (BT9) b2
  replace BB := bon BB BT9
  clear BT9
  have d0 := Xbc.cell (i := 0) rfl
  have d1 := Xbc.cell (i := 1) rfl
  have d2 := Xbc.cell (i := 2) rfl
  have d3 := Xbc.cell (i := 3) rfl
  clear Xbc lbc CB
  go_wp2_with fail
  have p9 := block_lt_of_cell b0
  have q9 := BB.size
  clear d0 d1 d2 d3
  refine wp_region_mix2 (af := ?afp) 2 (by kernel_rfl) zero_v4 zero_v4 (Nat.succ_pos _) (Nat.succ_pos _) rfl (by kernel_rfl) (by kernel_rfl) ?h1p ?h2p
  case h1p =>
    intro U9 BU9
    simp only [List.take_succ_cons, List.take_zero]
    replace Ev4_0 := rangeAt_on Ev4_0 (BU9)
    replace Ev4_1 := rangeAt_on Ev4_1 (BU9)
    replace b0 := cell_below (BU9) b0
    replace b1 := cell_below (BU9) b1
    replace b2 := cell_below (BU9) b2
    have k_b0 := cell_regrown b0
    have k_b1 := cell_regrown b1
    have k_b2 := cell_regrown b2
    repeat (first | ((try simp only [List.getElem_toArray, List.getElem_cons_succ, List.getElem_cons_zero]); go_big_quiet_want; refine quiet_eload _ _ rfl rk_v4 rfl (fun W hW => rangeAt_on Ev4_0 (below_regrown' hW)) rfl ?_; go_simp; go_big_quiet_on) | ((try simp only [List.getElem_toArray, List.getElem_cons_succ, List.getElem_cons_zero]); go_big_quiet_want; refine quiet_eload _ _ rfl rk_v4 rfl (fun W hW => rangeAt_on Ev4_1 (below_regrown' hW)) rfl ?_; go_simp; go_big_quiet_on) | ((try simp only [List.getElem_toArray, List.getElem_cons_succ, List.getElem_cons_zero]); go_big_quiet_step (fail)) | ((try simp only [List.getElem_toArray, List.getElem_cons_succ, List.getElem_cons_zero]); quiet_step (fail)))
    refine wpQuiet_nil ?_
    rfl
  intro bo bl V0 hne9 lbo lbl BT9 Xbo Xbl
  refine tree_one rfl ?_
  refine esetL (vs := [.int .i64 s0, .int .i64 s1, .int .i64 s2, .int .i64 s3]) rk_v4 rfl rfl Xbo rfl rfl (by simp [Value.oneCell']) ?_
  intro V1 Ybo B9 hc9 hf9
  replace BT9 := BT9.trans (B9.mono lbo)
  replace Xbl := Xbl.keep (by omega) hc9 hf9
  replace Xbo := Ybo
  clear B9 hc9 hf9
  refine ⟨BT9, ?_⟩
  refine tree_one rfl ?_
  refine esetL (vs := [.int .i64 s0, .int .i64 s1, .int .i64 s2, .int .i64 s3]) rk_v4 rfl rfl Xbl rfl rfl (by simp [Value.oneCell']) ?_
  intro V2 Ybl B9 hc9 hf9
  replace BT9 := BT9.trans (B9.mono lbl)
  replace Xbo := Xbo.keep (by omega) hc9 hf9
  replace Xbl := Ybl
  clear B9 hc9 hf9
  refine ⟨BT9, ?_⟩
  refine tree_nil ?_
  replace Ev4_0 := rangeAt_on Ev4_0 (BT9)
  replace Ev4_1 := rangeAt_on Ev4_1 (BT9)
  replace b0 := cell_below (BT9) b0
  replace b1 := cell_below (BT9) b1
  replace b2 := cell_below (BT9) b2
  replace BB := bon BB BT9
  clear BT9
  have qo := Nat.le_trans q9 lbo
  have ql := Nat.le_trans q9 lbl
  have p1 : w.heap.size + 1 < bo := Nat.lt_of_lt_of_le p9 lbo
  have p2 : w.heap.size + 1 < bl := Nat.lt_of_lt_of_le p9 lbl
  clear p9 q9 lbo lbl Ev4_0 a3
  go_wp2_with (first
    | (refine esetCL (i := 3) (v := .int .i64 65536) Xbo (by simp) rfl rfl rfl rfl (by kernel_rfl) ?_; intro V7 Ybo B9 hc9 hf9; replace Xbl := Xbl.keep (Ne.symm hne9) hc9 hf9; replace BB := BB.trans (B9.mono qo); replace Ev4_1 := rangeAt_below Ev4_1 p1 B9; replace b0 := (B9.cell (p := ⟨w.heap.size + 1, 0, none⟩) p1).trans b0; replace b1 := (B9.cell (p := ⟨w.heap.size + 1, 1, none⟩) p1).trans b1; replace b2 := (B9.cell (p := ⟨w.heap.size + 1, 2, none⟩) p1).trans b2; clear B9 hc9 hf9 Xbo)
    | (refine esetCL (i := 3) (v := .int .i64 0) Xbl (by simp) rfl rfl rfl rfl (by kernel_rfl) ?_; intro V8 Ybl B9 hc9 hf9; replace Ybo := Ybo.keep hne9 hc9 hf9; replace BB := BB.trans (B9.mono ql); replace Ev4_1 := rangeAt_below Ev4_1 p2 B9; replace b0 := (B9.cell (p := ⟨w.heap.size + 1, 0, none⟩) p2).trans b0; replace b1 := (B9.cell (p := ⟨w.heap.size + 1, 1, none⟩) p2).trans b1; replace b2 := (B9.cell (p := ⟨w.heap.size + 1, 2, none⟩) p2).trans b2; clear B9 hc9 hf9 Xbl))
  have Ev4_2 := range_cut Ybo.1 0 4
  have Ev4_3 := range_cut Ybl.1 0 4
  simp only [List.set_cons_succ, List.set_cons_zero, List.drop_zero, List.take_succ_cons, List.take_zero, Nat.zero_add] at Ev4_2 Ev4_3
  clear Ybo Ybl
  have k_b0 := cell_regrown b0
  have k_b1 := cell_regrown b1
  have k_b2 := cell_regrown b2
  refine wp_region_quiet_below (by kernel_rfl) (by kernel_rfl) ?_
  repeat (first | ((try simp only [List.getElem_toArray, List.getElem_cons_succ, List.getElem_cons_zero]); go_big_quiet_want; refine quiet_eload _ _ rfl rk_v4 rfl (fun W hW => rangeAt_on Ev4_1 (below_regrown' hW)) rfl ?_; go_simp; go_big_quiet_on) | ((try simp only [List.getElem_toArray, List.getElem_cons_succ, List.getElem_cons_zero]); go_big_quiet_want; refine quiet_eload _ _ rfl rk_v4 rfl (fun W hW => rangeAt_on Ev4_2 (below_regrown' hW)) rfl ?_; go_simp; go_big_quiet_on) | ((try simp only [List.getElem_toArray, List.getElem_cons_succ, List.getElem_cons_zero]); go_big_quiet_want; refine quiet_eload _ _ rfl rk_v4 rfl (fun W hW => rangeAt_on Ev4_3 (below_regrown' hW)) rfl ?_; go_simp; go_big_quiet_on) | ((try simp only [List.getElem_toArray, List.getElem_cons_succ, List.getElem_cons_zero]); go_big_quiet_step ((first | (go_at_call 19; with_reducible exact Calls.regrown_of (over_q _)) | (go_at_call 10; with_reducible exact Calls.regrown_of (CO.out _)) | (go_at_call 10; with_reducible exact Calls.regrown_of (CK.out _)) | (go_at_call 12; with_reducible exact Calls.regrown_of (example40_b _))))) | ((try simp only [List.getElem_toArray, List.getElem_cons_succ, List.getElem_cons_zero]); quiet_step ((first | (go_at_call 19; with_reducible exact Calls.regrown_of (over_q _)) | (go_at_call 10; with_reducible exact Calls.regrown_of (CO.out _)) | (go_at_call 10; with_reducible exact Calls.regrown_of (CK.out _)) | (go_at_call 12; with_reducible exact Calls.regrown_of (example40_b _))))))
  refine wpQuiet_nil ?_
  intro W9 hw'
  have B9 := below_regrown' hw'
  clear hw' k_b0 k_b1 k_b2
  replace Ev4_1 := rangeAt_on Ev4_1 (B9)
  replace Ev4_2 := rangeAt_on Ev4_2 (B9)
  replace Ev4_3 := rangeAt_on Ev4_3 (B9)
  replace b0 := cell_below (B9) b0
  replace b1 := cell_below (B9) b1
  replace b2 := cell_below (B9) b2
  replace BB := bon BB B9
  clear B9
  go_wp2
  go_ret
  exact ⟨rfl, BB⟩

theorem unitv_in {a b c d : Int} (h : unitv a b c d = true) : (0 ≤ a ∧ a ≤ 65536) ∧ (0 ≤ b ∧ b ≤ 65536) ∧ (0 ≤ c ∧ c ≤ 65536) ∧ (0 ≤ d ∧ d ≤ 65536) := by
  unfold unitv min4 max4 at h
  simp only [Bool.and_eq_true, decide_eq_true_eq] at h
  omega

theorem over_walk (s0 s1 s2 s3 t0 t1 t2 t3 : Int) (w : World) : Calls Try.prog 7 #[.agg #[.int .i64 s0, .int .i64 s1, .int .i64 s2, .int .i64 s3], .agg #[.int .i64 t0, .int .i64 t1, .int .i64 t2, .int .i64 t3]] w fun e w' => e = .returned (.bool true) ∧ Below w.heap.size w w' := by
  cases hs : unitv s0 s1 s2 s3
  · exact over_no s0 s1 s2 s3 t0 t1 t2 t3 (.inl hs) w
  cases ht : unitv t0 t1 t2 t3
  · exact over_no s0 s1 s2 s3 t0 t1 t2 t3 (.inr ht) w
  obtain ⟨h0, h1, h2, h3⟩ := unitv_in hs
  obtain ⟨k0, k1, k2, k3⟩ := unitv_in ht
  have z1 : subv 65536 65536 = 0 := by decide
  have z2 : subv 65536 0 = 65536 := by decide
  have e1 : ∀ x y : Int, 0 ≤ x → x ≤ 65536 → combv 1 x 65536 y (subv 65536 65536) = x := fun x y a b => by rw [z1, comb_src, sat_id x (by omega) (by omega)]
  have e2 : ∀ x y : Int, 0 ≤ y → y ≤ 65536 → combv 1 x 0 y (subv 65536 0) = y := fun x y a b => by rw [z2, comb_tgt, sat_id y (by omega) (by omega)]
  exact over_yes s0 s1 s2 s3 t0 t1 t2 t3 _ _ _ hs ht (Lib.hid fun W => over_blend s0 s1 s2 s3 t0 t1 t2 t3 _ _ _ s3 rfl rfl rfl (sat_id s3 (by omega) (by omega)) W)
    (Lib.hid fun W => over_blend s0 s1 s2 65536 t0 t1 t2 t3 s0 s1 s2 65536 (e1 _ _ h0.1 h0.2) (e1 _ _ h1.1 h1.2) (e1 _ _ h2.1 h2.2) rfl W)
    (Lib.hid fun W => over_blend s0 s1 s2 0 t0 t1 t2 t3 t0 t1 t2 0 (e2 _ _ k0.1 k0.2) (e2 _ _ k1.1 k1.2) (e2 _ _ k2.1 k2.2) rfl W)
    (over_bd _ _ _ h0.1 h0.2 k0.1 k0.2 h3.1 h3.2) (over_bd _ _ _ h1.1 h1.2 k1.1 k1.2 h3.1 h3.2) (over_bd _ _ _ h2.1 h2.2 k2.1 k2.2 h3.1 h3.2) w

end Go.Proofs.Ytainijafljpiaaa
