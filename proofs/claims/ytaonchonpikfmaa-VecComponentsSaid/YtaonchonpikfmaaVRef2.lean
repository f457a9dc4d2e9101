/- What the calls of the reference of package vec return: the functions over one or two vectors. -/
import Derived.Test.YtaonchonpikfmaaVec3
namespace Go.Proofs.Ytaonchonpikfmaa
open Go.RowKit Go.Sort

theorem rsub4 (x0 x1 x2 x3 y0 y1 y2 y3 : Int) (w : World) :
    Calls Try.prog 12 #[.agg #[.int .i64 x0, .int .i64 x1, .int .i64 x2, .int .i64 x3], .agg #[.int .i64 y0, .int .i64 y1, .int .i64 y2, .int .i64 y3]] w fun e w' =>
      e = .returned (.agg #[.int .i64 (subv x0 y0), .int .i64 (subv x1 y1), .int .i64 (subv x2 y2), .int .i64 (subv x3 y3)]) ∧ Below w.heap.size w w' := by
  obtain ⟨BB, a0, a1, a2, a3, b0, b1, b2, b3, d0, d1, d2, d3, f0, f1, f2, f3⟩ := args2 w (.int .i64 x0) (.int .i64 x1) (.int .i64 x2) (.int .i64 x3) (.int .i64 y0) (.int .i64 y1) (.int .i64 y2) (.int .i64 y3) 23
  go_enter Try.func12, Try.ntmps12
  go_wp2
  have k_a0 := cell_regrown a0
  have k_a1 := cell_regrown a1
  have k_a2 := cell_regrown a2
  have k_a3 := cell_regrown a3
  have k_b0 := cell_regrown b0
  have k_b1 := cell_regrown b1
  have k_b2 := cell_regrown b2
  have k_b3 := cell_regrown b3
  have k_d0 := cell_regrown d0
  have k_d1 := cell_regrown d1
  have k_d2 := cell_regrown d2
  have k_d3 := cell_regrown d3
  refine wp_region_tail (n := 21) (by kernel_rfl) (by kernel_rfl) ?_
  simp only [List.take_succ_cons, List.take_zero, List.drop_succ_cons, List.drop_zero]
  repeat (first | go_big_quiet_step ((first | (go_at_call 40; exact Calls.regrown_of (rsub_b _ _ _)))) | quiet_step ((first | (go_at_call 40; exact Calls.regrown_of (rsub_b _ _ _)))))
  refine wpQuiet_nil ?_
  intro W hw'
  have B := below_regrown' hw'
  clear hw' k_a0 k_a1 k_a2 k_a3 k_b0 k_b1 k_b2 k_b3 k_d0 k_d1 k_d2 k_d3
  replace BB := bon BB B
  replace f0 := frozen_below B d0 f0
  replace f1 := frozen_below B d1 f1
  replace f2 := frozen_below B d2 f2
  replace f3 := frozen_below B d3 f3
  replace a0 := cell_below B a0
  replace a1 := cell_below B a1
  replace a2 := cell_below B a2
  replace a3 := cell_below B a3
  replace b0 := cell_below B b0
  replace b1 := cell_below B b1
  replace b2 := cell_below B b2
  replace b3 := cell_below B b3
  replace d0 := cell_below B d0
  replace d1 := cell_below B d1
  replace d2 := cell_below B d2
  replace d3 := cell_below B d3
  go_wp2
  exact bodyPost_ret (v := .agg #[.int .i64 (subv x0 y0), .int .i64 (subv x1 y1), .int .i64 (subv x2 y2), .int .i64 (subv x3 y3)]) (by simp [results, Try.results12, go_sem, *]) rfl ⟨rfl, (((BB.setCell (by simp; omega) _).setCell (by simp; omega) _).setCell (by simp; omega) _).setCell (by simp; omega) _⟩

theorem rmul4 (x0 x1 x2 x3 y0 y1 y2 y3 : Int) (w : World) :
    Calls Try.prog 14 #[.agg #[.int .i64 x0, .int .i64 x1, .int .i64 x2, .int .i64 x3], .agg #[.int .i64 y0, .int .i64 y1, .int .i64 y2, .int .i64 y3]] w fun e w' =>
      e = .returned (.agg #[.int .i64 (mulv x0 y0), .int .i64 (mulv x1 y1), .int .i64 (mulv x2 y2), .int .i64 (mulv x3 y3)]) ∧ Below w.heap.size w w' := by
  obtain ⟨BB, a0, a1, a2, a3, b0, b1, b2, b3, d0, d1, d2, d3, f0, f1, f2, f3⟩ := args2 w (.int .i64 x0) (.int .i64 x1) (.int .i64 x2) (.int .i64 x3) (.int .i64 y0) (.int .i64 y1) (.int .i64 y2) (.int .i64 y3) 23
  go_enter Try.func14, Try.ntmps14
  go_wp2
  have k_a0 := cell_regrown a0
  have k_a1 := cell_regrown a1
  have k_a2 := cell_regrown a2
  have k_a3 := cell_regrown a3
  have k_b0 := cell_regrown b0
  have k_b1 := cell_regrown b1
  have k_b2 := cell_regrown b2
  have k_b3 := cell_regrown b3
  have k_d0 := cell_regrown d0
  have k_d1 := cell_regrown d1
  have k_d2 := cell_regrown d2
  have k_d3 := cell_regrown d3
  refine wp_region_tail (n := 21) (by kernel_rfl) (by kernel_rfl) ?_
  simp only [List.take_succ_cons, List.take_zero, List.drop_succ_cons, List.drop_zero]
  repeat (first | go_big_quiet_step ((first | (go_at_call 42; exact Calls.regrown_of (rmul_b _ _ _)))) | quiet_step ((first | (go_at_call 42; exact Calls.regrown_of (rmul_b _ _ _)))))
  refine wpQuiet_nil ?_
  intro W hw'
  have B := below_regrown' hw'
  clear hw' k_a0 k_a1 k_a2 k_a3 k_b0 k_b1 k_b2 k_b3 k_d0 k_d1 k_d2 k_d3
  replace BB := bon BB B
  replace f0 := frozen_below B d0 f0
  replace f1 := frozen_below B d1 f1
  replace f2 := frozen_below B d2 f2
  replace f3 := frozen_below B d3 f3
  replace a0 := cell_below B a0
  replace a1 := cell_below B a1
  replace a2 := cell_below B a2
  replace a3 := cell_below B a3
  replace b0 := cell_below B b0
  replace b1 := cell_below B b1
  replace b2 := cell_below B b2
  replace b3 := cell_below B b3
  replace d0 := cell_below B d0
  replace d1 := cell_below B d1
  replace d2 := cell_below B d2
  replace d3 := cell_below B d3
  go_wp2
  exact bodyPost_ret (v := .agg #[.int .i64 (mulv x0 y0), .int .i64 (mulv x1 y1), .int .i64 (mulv x2 y2), .int .i64 (mulv x3 y3)]) (by simp [results, Try.results14, go_sem, *]) rfl ⟨rfl, (((BB.setCell (by simp; omega) _).setCell (by simp; omega) _).setCell (by simp; omega) _).setCell (by simp; omega) _⟩

theorem rlerp4 (x0 x1 x2 x3 y0 y1 y2 y3 k : Int) (w : World) :
    Calls Try.prog 18 #[.agg #[.int .i64 x0, .int .i64 x1, .int .i64 x2, .int .i64 x3], .agg #[.int .i64 y0, .int .i64 y1, .int .i64 y2, .int .i64 y3], .int .i64 k] w fun e w' =>
      e = .returned (.agg #[.int .i64 (lerpv x0 y0 k), .int .i64 (lerpv x1 y1 k), .int .i64 (lerpv x2 y2 k), .int .i64 (lerpv x3 y3 k)]) ∧ Below w.heap.size w w' := by
  obtain ⟨BB, a0, a1, a2, a3, b0, b1, b2, b3, d0, d1, d2, d3, f0, f1, f2, f3⟩ := args2 w (.int .i64 x0) (.int .i64 x1) (.int .i64 x2) (.int .i64 x3) (.int .i64 y0) (.int .i64 y1) (.int .i64 y2) (.int .i64 y3) 23
  go_enter Try.func18, Try.ntmps18
  go_wp2
  have k_a0 := cell_regrown a0
  have k_a1 := cell_regrown a1
  have k_a2 := cell_regrown a2
  have k_a3 := cell_regrown a3
  have k_b0 := cell_regrown b0
  have k_b1 := cell_regrown b1
  have k_b2 := cell_regrown b2
  have k_b3 := cell_regrown b3
  have k_d0 := cell_regrown d0
  have k_d1 := cell_regrown d1
  have k_d2 := cell_regrown d2
  have k_d3 := cell_regrown d3
  refine wp_region_tail (n := 25) (by kernel_rfl) (by kernel_rfl) ?_
  simp only [List.take_succ_cons, List.take_zero, List.drop_succ_cons, List.drop_zero]
  repeat (first | go_big_quiet_step ((first | (go_at_call 47; exact Calls.regrown_of (rlerp_b _ _ _ _)))) | quiet_step ((first | (go_at_call 47; exact Calls.regrown_of (rlerp_b _ _ _ _)))))
  refine wpQuiet_nil ?_
  intro W hw'
  have B := below_regrown' hw'
  clear hw' k_a0 k_a1 k_a2 k_a3 k_b0 k_b1 k_b2 k_b3 k_d0 k_d1 k_d2 k_d3
  replace BB := bon BB B
  replace f0 := frozen_below B d0 f0
  replace f1 := frozen_below B d1 f1
  replace f2 := frozen_below B d2 f2
  replace f3 := frozen_below B d3 f3
  replace a0 := cell_below B a0
  replace a1 := cell_below B a1
  replace a2 := cell_below B a2
  replace a3 := cell_below B a3
  replace b0 := cell_below B b0
  replace b1 := cell_below B b1
  replace b2 := cell_below B b2
  replace b3 := cell_below B b3
  replace d0 := cell_below B d0
  replace d1 := cell_below B d1
  replace d2 := cell_below B d2
  replace d3 := cell_below B d3
  go_wp2
  exact bodyPost_ret (v := .agg #[.int .i64 (lerpv x0 y0 k), .int .i64 (lerpv x1 y1 k), .int .i64 (lerpv x2 y2 k), .int .i64 (lerpv x3 y3 k)]) (by simp [results, Try.results18, go_sem, *]) rfl ⟨rfl, (((BB.setCell (by simp; omega) _).setCell (by simp; omega) _).setCell (by simp; omega) _).setCell (by simp; omega) _⟩

theorem rmax4 (x0 x1 x2 x3 y0 y1 y2 y3 : Int) (w : World) :
    Calls Try.prog 22 #[.agg #[.int .i64 x0, .int .i64 x1, .int .i64 x2, .int .i64 x3], .agg #[.int .i64 y0, .int .i64 y1, .int .i64 y2, .int .i64 y3]] w fun e w' =>
      e = .returned (.agg #[.int .i64 (imax x0 y0), .int .i64 (imax x1 y1), .int .i64 (imax x2 y2), .int .i64 (imax x3 y3)]) ∧ Below w.heap.size w w' := by
  obtain ⟨BB, a0, a1, a2, a3, b0, b1, b2, b3, d0, d1, d2, d3, f0, f1, f2, f3⟩ := args2 w (.int .i64 x0) (.int .i64 x1) (.int .i64 x2) (.int .i64 x3) (.int .i64 y0) (.int .i64 y1) (.int .i64 y2) (.int .i64 y3) 23
  have hmax : ∀ (ts : Array TypeId) (t : TypeId) (x y : Int) (w : World), (Builtin.max_ ts t #[.int .i64 x, .int .i64 y]).run Try.prog w = .ok (.int .i64 (imax x y)) w := fun ts t x y w => by simp [Builtin.max_, Builtin.max2, imax]
  go_enter Try.func22, Try.ntmps22
  go_wp2
  exact bodyPost_ret (v := .agg #[.int .i64 (imax x0 y0), .int .i64 (imax x1 y1), .int .i64 (imax x2 y2), .int .i64 (imax x3 y3)]) (by simp [results, Try.results22, go_sem]) rfl ⟨rfl, (((Below.refl _ _).alloc (Nat.le_refl _) _).alloc (by simp) _).alloc (by simp; omega) _⟩

theorem rscale4 (x0 x1 x2 x3 k : Int) (w : World) :
    Calls Try.prog 16 #[.agg #[.int .i64 x0, .int .i64 x1, .int .i64 x2, .int .i64 x3], .int .i64 k] w fun e w' =>
      e = .returned (.agg #[.int .i64 (mulv x0 k), .int .i64 (mulv x1 k), .int .i64 (mulv x2 k), .int .i64 (mulv x3 k)]) ∧ Below w.heap.size w w' := by
  obtain ⟨BB, a0, a1, a2, a3, d0, d1, d2, d3, f0, f1, f2, f3⟩ := args1 w (.int .i64 x0) (.int .i64 x1) (.int .i64 x2) (.int .i64 x3) 23
  go_enter Try.func16, Try.ntmps16
  go_wp2_with (first | (go_at_call 14; refine (rmul4 _ _ _ _ _ _ _ _ _).mono ?_; rintro _ _ ⟨rfl, B⟩; replace BB := bon BB B; replace f0 := frozen_below B d0 f0; replace f1 := frozen_below B d1 f1; replace f2 := frozen_below B d2 f2; replace f3 := frozen_below B d3 f3; replace a0 := cell_below B a0; replace a1 := cell_below B a1; replace a2 := cell_below B a2; replace a3 := cell_below B a3; replace d0 := cell_below B d0; replace d1 := cell_below B d1; replace d2 := cell_below B d2; replace d3 := cell_below B d3))
  exact bodyPost_ret (v := .agg #[.int .i64 (mulv x0 k), .int .i64 (mulv x1 k), .int .i64 (mulv x2 k), .int .i64 (mulv x3 k)]) (by simp [results, Try.results16, go_sem, *]) rfl ⟨rfl, (((BB.setCell (by simp) _).setCell (by simp) _).setCell (by simp) _).setCell (by simp) _⟩

theorem rclamp4 (x0 x1 x2 x3 : Int) (w : World) :
    Calls Try.prog 24 #[.agg #[.int .i64 x0, .int .i64 x1, .int .i64 x2, .int .i64 x3]] w fun e w' =>
      e = .returned (.agg #[.int .i64 (imax 0 (imin x0 65536)), .int .i64 (imax 0 (imin x1 65536)), .int .i64 (imax 0 (imin x2 65536)), .int .i64 (imax 0 (imin x3 65536))]) ∧ Below w.heap.size w w' := by
  obtain ⟨BB, a0, a1, a2, a3, d0, d1, d2, d3, f0, f1, f2, f3⟩ := args1 w (.int .i64 x0) (.int .i64 x1) (.int .i64 x2) (.int .i64 x3) 23
  go_enter Try.func24, Try.ntmps24
  go_wp2_with (first | (go_at_call 20; refine (rmin4 _ _ _ _ _ _ _ _ _).mono ?_; rintro _ _ ⟨rfl, B⟩; replace BB := bon BB B; replace f0 := frozen_below B d0 f0; replace f1 := frozen_below B d1 f1; replace f2 := frozen_below B d2 f2; replace f3 := frozen_below B d3 f3; replace a0 := cell_below B a0; replace a1 := cell_below B a1; replace a2 := cell_below B a2; replace a3 := cell_below B a3; replace d0 := cell_below B d0; replace d1 := cell_below B d1; replace d2 := cell_below B d2; replace d3 := cell_below B d3) | (go_at_call 22; refine (rmax4 _ _ _ _ _ _ _ _ _).mono ?_; rintro _ _ ⟨rfl, B⟩; replace BB := bon BB B; replace f0 := frozen_below B d0 f0; replace f1 := frozen_below B d1 f1; replace f2 := frozen_below B d2 f2; replace f3 := frozen_below B d3 f3; replace a0 := cell_below B a0; replace a1 := cell_below B a1; replace a2 := cell_below B a2; replace a3 := cell_below B a3; replace d0 := cell_below B d0; replace d1 := cell_below B d1; replace d2 := cell_below B d2; replace d3 := cell_below B d3))
  exact bodyPost_ret (v := .agg #[.int .i64 (imax 0 (imin x0 65536)), .int .i64 (imax 0 (imin x1 65536)), .int .i64 (imax 0 (imin x2 65536)), .int .i64 (imax 0 (imin x3 65536))]) (by simp [results, Try.results24, go_sem, *]) rfl ⟨rfl, (((BB.setCell (by simp) _).setCell (by simp) _).setCell (by simp) _).setCell (by simp) _⟩

theorem rlist_b (x0 x1 x2 x3 : Int) (w : World) : Calls Try.prog 29 #[.agg #[.int .i64 x0, .int .i64 x1, .int .i64 x2, .int .i64 x3]] w (LIs x0 x1 x2 x3 w) := by
  obtain ⟨a0, a1, a2, a3, BB⟩ := box4 w (.int .i64 x0) (.int .i64 x1) (.int .i64 x2) (.int .i64 x3) 23
  go_enter Try.func29, Try.ntmps29
  go_wp2
  go_ret
  exact ⟨_, rfl, by simp, by simp, by simp, by simp, bon BB (box_below _ _ _)⟩

theorem rcomp_b (x0 x1 x2 x3 i : Int) (w : World) :
    Calls Try.prog 33 #[.agg #[.int .i64 x0, .int .i64 x1, .int .i64 x2, .int .i64 x3], .int .i64 i] w fun e w' => e = .returned (.int .i64 (compv x0 x1 x2 x3 i)) ∧ Below w.heap.size w w' := by
  obtain ⟨a0, a1, a2, a3, BB⟩ := box4 w (.int .i64 x0) (.int .i64 x1) (.int .i64 x2) (.int .i64 x3) 23
  rcases five i with h | rfl | rfl | rfl | rfl
  · have hv : compv x0 x1 x2 x3 i = 0 := by unfold compv; rw [if_neg (by omega), if_neg (by omega), if_neg (by omega), if_neg (by omega)]
    rw [hv]
    clear hv
    rcases h with h | h
    all_goals
      go_enter Try.func33, Try.ntmps33
      go_wp2
      go_ret
      exact ⟨rfl, BB⟩
  all_goals
    go_enter Try.func33, Try.ntmps33
    go_wp2_with (go_at_call 29; refine (rlist_b _ _ _ _ _).mono ?_; rintro _ _ ⟨lb, rfl, l0, l1, l2, l3, B⟩; replace BB := bon BB B)
    go_ret
    exact ⟨ret_int (by simp [compv]), BB⟩

theorem rwith_b (x0 x1 x2 x3 i x : Int) (w : World) :
    Calls Try.prog 35 #[.agg #[.int .i64 x0, .int .i64 x1, .int .i64 x2, .int .i64 x3], .int .i64 i, .int .i64 x] w fun e w' =>
      e = .returned (.agg #[.int .i64 (withv i x 0 x0), .int .i64 (withv i x 1 x1), .int .i64 (withv i x 2 x2), .int .i64 (withv i x 3 x3)]) ∧ Below w.heap.size w w' := by
  obtain ⟨BB, a0, a1, a2, a3, d0, d1, d2, d3, f0, f1, f2, f3⟩ := args1 w (.int .i64 x0) (.int .i64 x1) (.int .i64 x2) (.int .i64 x3) 23
  rcases five i with h | rfl | rfl | rfl | rfl
  · have h0 : ¬ i = 0 := by omega
    have h1 : ¬ i = 1 := by omega
    have h2 : ¬ i = 2 := by omega
    have h3 : ¬ i = 3 := by omega
    have e0 : withv i x 0 x0 = x0 := if_neg h0
    have e1 : withv i x 1 x1 = x1 := if_neg h1
    have e2 : withv i x 2 x2 = x2 := if_neg h2
    have e3 : withv i x 3 x3 = x3 := if_neg h3
    rw [e0, e1, e2, e3]
    clear h e0 e1 e2 e3
    go_enter Try.func35, Try.ntmps35
    go_wp2
    exact bodyPost_ret (v := .agg #[.int .i64 x0, .int .i64 x1, .int .i64 x2, .int .i64 x3]) (by simp [results, Try.results35, go_sem]) rfl ⟨rfl, ((Below.refl _ _).alloc (Nat.le_refl _) _).alloc (by simp) _⟩
  · show Calls _ _ _ _ fun e w' => e = .returned (.agg #[.int .i64 x, .int .i64 x1, .int .i64 x2, .int .i64 x3]) ∧ _
    go_enter Try.func35, Try.ntmps35
    go_wp2
    exact bodyPost_ret (v := .agg #[.int .i64 x, .int .i64 x1, .int .i64 x2, .int .i64 x3]) (by simp [results, Try.results35, go_sem]) rfl ⟨rfl, ((Below.refl _ _).alloc (Nat.le_refl _) _).alloc (by simp) _⟩
  · show Calls _ _ _ _ fun e w' => e = .returned (.agg #[.int .i64 x0, .int .i64 x, .int .i64 x2, .int .i64 x3]) ∧ _
    go_enter Try.func35, Try.ntmps35
    go_wp2
    exact bodyPost_ret (v := .agg #[.int .i64 x0, .int .i64 x, .int .i64 x2, .int .i64 x3]) (by simp [results, Try.results35, go_sem]) rfl ⟨rfl, ((Below.refl _ _).alloc (Nat.le_refl _) _).alloc (by simp) _⟩
  · show Calls _ _ _ _ fun e w' => e = .returned (.agg #[.int .i64 x0, .int .i64 x1, .int .i64 x, .int .i64 x3]) ∧ _
    go_enter Try.func35, Try.ntmps35
    go_wp2
    exact bodyPost_ret (v := .agg #[.int .i64 x0, .int .i64 x1, .int .i64 x, .int .i64 x3]) (by simp [results, Try.results35, go_sem]) rfl ⟨rfl, ((Below.refl _ _).alloc (Nat.le_refl _) _).alloc (by simp) _⟩
  · show Calls _ _ _ _ fun e w' => e = .returned (.agg #[.int .i64 x0, .int .i64 x1, .int .i64 x2, .int .i64 x]) ∧ _
    go_enter Try.func35, Try.ntmps35
    go_wp2
    exact bodyPost_ret (v := .agg #[.int .i64 x0, .int .i64 x1, .int .i64 x2, .int .i64 x]) (by simp [results, Try.results35, go_sem]) rfl ⟨rfl, ((Below.refl _ _).alloc (Nat.le_refl _) _).alloc (by simp) _⟩

end Go.Proofs.Ytaonchonpikfmaa
