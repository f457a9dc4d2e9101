/- Blend of a state that is not enabled; limitedVec. -/
import Derived.Test.YtainijafljpiaaaBL5
namespace Go.Proofs.Ytainijafljpiaaa
set_option linter.unusedSimpArgs false
open Go.RowKit Go.Sort Go.ChangeShapes Go.WideShapes
set_option linter.unusedVariables false

set_option maxRecDepth 100000 in
set_option maxHeartbeats 2000000 in
theorem saturated_b (s0 s1 s2 s3 : Int) (w : World) : Calls Try.prog 24 #[.agg #[.int .i64 s0, .int .i64 s1, .int .i64 s2, .int .i64 s3]] w fun e w' => e = .returned (.agg #[.int .i64 (sat s0), .int .i64 (sat s1), .int .i64 (sat s2), .int .i64 (sat s3)]) ∧ Below w.heap.size w w' := by
  have BB := box_below w #[.int .i64 s0, .int .i64 s1, .int .i64 s2, .int .i64 s3] 27
  have X0 := EBox.made w #[.int .i64 s0, .int .i64 s1, .int .i64 s2, .int .i64 s3] 27
  have hsz1 : (w.alloc (.cells #[.int .i64 s0, .int .i64 s1, .int .i64 s2, .int .i64 s3] 27)).heap.size = w.heap.size + 1 := by simp
  have X1 := EBox.made (w.alloc (.cells #[.int .i64 s0, .int .i64 s1, .int .i64 s2, .int .i64 s3] 27)) #[.int .i64 0, .int .i64 0, .int .i64 0, .int .i64 0] 27
  rw [hsz1] at X1
  replace X0 := X0.on (Nat.succ_pos _) (box_below (w.alloc (.cells #[.int .i64 s0, .int .i64 s1, .int .i64 s2, .int .i64 s3] 27)) #[.int .i64 0, .int .i64 0, .int .i64 0, .int .i64 0] 27)
  replace BB := bon BB (box_below (w.alloc (.cells #[.int .i64 s0, .int .i64 s1, .int .i64 s2, .int .i64 s3] 27)) #[.int .i64 0, .int .i64 0, .int .i64 0, .int .i64 0] 27)
  clear hsz1
  have Ev4_0 := range_cut X0.1 0 4
  simp only [List.drop_succ_cons, List.drop_zero, List.take_succ_cons, List.take_zero, Nat.zero_add] at Ev4_0
  clear X0
  have XR := X1
  clear X1
  go_enter Try.func24, Try.ntmps24
  go_wp2_with (first | ((with_reducible refine eload4L rk_v4 Ev4_0 ?_ ?_); focus rfl) | (go_at_call 45; refine (add4z _ _ _ _ _).mono ?_; rintro _ _ ⟨rfl, B⟩; (replace BB := bon BB B; replace Ev4_0 := rangeAt_on Ev4_0 B); replace XR := XR.on (Nat.succ_pos _) B; clear B) | (refine esetL (vs := [.int .i64 (sat s0), .int .i64 (sat s1), .int .i64 (sat s2), .int .i64 (sat s3)]) rk_v4 rfl rfl XR rfl rfl (four_one _ _ _ _) ?_; intro V1 X1 B1 hc hf; clear hc hf; have r0 := X1.cell (i := 0) rfl; have r1 := X1.cell (i := 1) rfl; have r2 := X1.cell (i := 2) rfl; have r3 := X1.cell (i := 3) rfl))
  exact bodyPost_ret (v := .agg #[.int .i64 (sat s0), .int .i64 (sat s1), .int .i64 (sat s2), .int .i64 (sat s3)]) (by simp [results, Try.results24, go_sem, r0, r1, r2, r3]) rfl ⟨rfl, BB.trans (B1.mono (by omega))⟩

set_option maxRecDepth 100000 in
set_option maxHeartbeats 2000000 in
theorem blend_off (sc tc cop sa ta aop mk s0 s1 s2 s3 t0 t1 t2 t3 : Int) (w : World) : Calls Try.prog 10 #[.agg #[.bool false, .int .i64 sc, .int .i64 tc, .int .i64 cop, .int .i64 sa, .int .i64 ta, .int .i64 aop, .int .i64 mk], .agg #[.int .i64 s0, .int .i64 s1, .int .i64 s2, .int .i64 s3], .agg #[.int .i64 t0, .int .i64 t1, .int .i64 t2, .int .i64 t3]] w fun e w' => e = .returned (.agg #[.int .i64 (sat s0), .int .i64 (sat s1), .int .i64 (sat s2), .int .i64 (sat s3)]) ∧ Below w.heap.size w w' := by
  have BB := box_below w #[.bool false, .int .i64 sc, .int .i64 tc, .int .i64 cop, .int .i64 sa, .int .i64 ta, .int .i64 aop, .int .i64 mk] 25
  have X0 := EBox.made w #[.bool false, .int .i64 sc, .int .i64 tc, .int .i64 cop, .int .i64 sa, .int .i64 ta, .int .i64 aop, .int .i64 mk] 25
  have hsz1 : (w.alloc (.cells #[.bool false, .int .i64 sc, .int .i64 tc, .int .i64 cop, .int .i64 sa, .int .i64 ta, .int .i64 aop, .int .i64 mk] 25)).heap.size = w.heap.size + 1 := by simp
  have X1 := EBox.made (w.alloc (.cells #[.bool false, .int .i64 sc, .int .i64 tc, .int .i64 cop, .int .i64 sa, .int .i64 ta, .int .i64 aop, .int .i64 mk] 25)) #[.int .i64 s0, .int .i64 s1, .int .i64 s2, .int .i64 s3] 27
  rw [hsz1] at X1
  replace X0 := X0.on (Nat.succ_pos _) (box_below (w.alloc (.cells #[.bool false, .int .i64 sc, .int .i64 tc, .int .i64 cop, .int .i64 sa, .int .i64 ta, .int .i64 aop, .int .i64 mk] 25)) #[.int .i64 s0, .int .i64 s1, .int .i64 s2, .int .i64 s3] 27)
  replace BB := bon BB (box_below (w.alloc (.cells #[.bool false, .int .i64 sc, .int .i64 tc, .int .i64 cop, .int .i64 sa, .int .i64 ta, .int .i64 aop, .int .i64 mk] 25)) #[.int .i64 s0, .int .i64 s1, .int .i64 s2, .int .i64 s3] 27)
  clear hsz1
  have hsz2 : ((w.alloc (.cells #[.bool false, .int .i64 sc, .int .i64 tc, .int .i64 cop, .int .i64 sa, .int .i64 ta, .int .i64 aop, .int .i64 mk] 25)).alloc (.cells #[.int .i64 s0, .int .i64 s1, .int .i64 s2, .int .i64 s3] 27)).heap.size = w.heap.size + 2 := by simp
  have X2 := EBox.made ((w.alloc (.cells #[.bool false, .int .i64 sc, .int .i64 tc, .int .i64 cop, .int .i64 sa, .int .i64 ta, .int .i64 aop, .int .i64 mk] 25)).alloc (.cells #[.int .i64 s0, .int .i64 s1, .int .i64 s2, .int .i64 s3] 27)) #[.int .i64 t0, .int .i64 t1, .int .i64 t2, .int .i64 t3] 27
  rw [hsz2] at X2
  replace X0 := X0.on (Nat.succ_pos _) (box_below ((w.alloc (.cells #[.bool false, .int .i64 sc, .int .i64 tc, .int .i64 cop, .int .i64 sa, .int .i64 ta, .int .i64 aop, .int .i64 mk] 25)).alloc (.cells #[.int .i64 s0, .int .i64 s1, .int .i64 s2, .int .i64 s3] 27)) #[.int .i64 t0, .int .i64 t1, .int .i64 t2, .int .i64 t3] 27)
  replace X1 := X1.on (Nat.succ_pos _) (box_below ((w.alloc (.cells #[.bool false, .int .i64 sc, .int .i64 tc, .int .i64 cop, .int .i64 sa, .int .i64 ta, .int .i64 aop, .int .i64 mk] 25)).alloc (.cells #[.int .i64 s0, .int .i64 s1, .int .i64 s2, .int .i64 s3] 27)) #[.int .i64 t0, .int .i64 t1, .int .i64 t2, .int .i64 t3] 27)
  replace BB := bon BB (box_below ((w.alloc (.cells #[.bool false, .int .i64 sc, .int .i64 tc, .int .i64 cop, .int .i64 sa, .int .i64 ta, .int .i64 aop, .int .i64 mk] 25)).alloc (.cells #[.int .i64 s0, .int .i64 s1, .int .i64 s2, .int .i64 s3] 27)) #[.int .i64 t0, .int .i64 t1, .int .i64 t2, .int .i64 t3] 27)
  clear hsz2
  have hsz3 : (((w.alloc (.cells #[.bool false, .int .i64 sc, .int .i64 tc, .int .i64 cop, .int .i64 sa, .int .i64 ta, .int .i64 aop, .int .i64 mk] 25)).alloc (.cells #[.int .i64 s0, .int .i64 s1, .int .i64 s2, .int .i64 s3] 27)).alloc (.cells #[.int .i64 t0, .int .i64 t1, .int .i64 t2, .int .i64 t3] 27)).heap.size = w.heap.size + 3 := by simp
  have X3 := EBox.made (((w.alloc (.cells #[.bool false, .int .i64 sc, .int .i64 tc, .int .i64 cop, .int .i64 sa, .int .i64 ta, .int .i64 aop, .int .i64 mk] 25)).alloc (.cells #[.int .i64 s0, .int .i64 s1, .int .i64 s2, .int .i64 s3] 27)).alloc (.cells #[.int .i64 t0, .int .i64 t1, .int .i64 t2, .int .i64 t3] 27)) #[.int .i64 0, .int .i64 0, .int .i64 0, .int .i64 0] 27
  rw [hsz3] at X3
  replace X0 := X0.on (Nat.succ_pos _) (box_below (((w.alloc (.cells #[.bool false, .int .i64 sc, .int .i64 tc, .int .i64 cop, .int .i64 sa, .int .i64 ta, .int .i64 aop, .int .i64 mk] 25)).alloc (.cells #[.int .i64 s0, .int .i64 s1, .int .i64 s2, .int .i64 s3] 27)).alloc (.cells #[.int .i64 t0, .int .i64 t1, .int .i64 t2, .int .i64 t3] 27)) #[.int .i64 0, .int .i64 0, .int .i64 0, .int .i64 0] 27)
  replace X1 := X1.on (Nat.succ_pos _) (box_below (((w.alloc (.cells #[.bool false, .int .i64 sc, .int .i64 tc, .int .i64 cop, .int .i64 sa, .int .i64 ta, .int .i64 aop, .int .i64 mk] 25)).alloc (.cells #[.int .i64 s0, .int .i64 s1, .int .i64 s2, .int .i64 s3] 27)).alloc (.cells #[.int .i64 t0, .int .i64 t1, .int .i64 t2, .int .i64 t3] 27)) #[.int .i64 0, .int .i64 0, .int .i64 0, .int .i64 0] 27)
  replace X2 := X2.on (Nat.succ_pos _) (box_below (((w.alloc (.cells #[.bool false, .int .i64 sc, .int .i64 tc, .int .i64 cop, .int .i64 sa, .int .i64 ta, .int .i64 aop, .int .i64 mk] 25)).alloc (.cells #[.int .i64 s0, .int .i64 s1, .int .i64 s2, .int .i64 s3] 27)).alloc (.cells #[.int .i64 t0, .int .i64 t1, .int .i64 t2, .int .i64 t3] 27)) #[.int .i64 0, .int .i64 0, .int .i64 0, .int .i64 0] 27)
  replace BB := bon BB (box_below (((w.alloc (.cells #[.bool false, .int .i64 sc, .int .i64 tc, .int .i64 cop, .int .i64 sa, .int .i64 ta, .int .i64 aop, .int .i64 mk] 25)).alloc (.cells #[.int .i64 s0, .int .i64 s1, .int .i64 s2, .int .i64 s3] 27)).alloc (.cells #[.int .i64 t0, .int .i64 t1, .int .i64 t2, .int .i64 t3] 27)) #[.int .i64 0, .int .i64 0, .int .i64 0, .int .i64 0] 27)
  clear hsz3
  have e0 := X0.cell (i := 0) rfl
  have Ev4_0 := range_cut X1.1 0 4
  simp only [List.drop_succ_cons, List.drop_zero, List.take_succ_cons, List.take_zero, Nat.zero_add] at Ev4_0
  clear X0 X1 X2
  have XR := X3
  clear X3
  go_enter Try.func10, Try.ntmps10
  go_wp2_with (first | ((with_reducible refine eload4L rk_v4 Ev4_0 ?_ ?_); focus rfl) | (go_at_call 24; refine (saturated_b _ _ _ _ _).mono ?_; rintro _ _ ⟨rfl, B⟩; (replace BB := bon BB B; replace Ev4_0 := rangeAt_on Ev4_0 B; replace e0 := cell_below B e0); replace XR := XR.on (Nat.succ_pos _) B; clear B) | (refine esetL (vs := [.int .i64 (sat s0), .int .i64 (sat s1), .int .i64 (sat s2), .int .i64 (sat s3)]) rk_v4 rfl rfl XR rfl rfl (four_one _ _ _ _) ?_; intro V1 X1 B1 hc hf; clear hc hf; have r0 := X1.cell (i := 0) rfl; have r1 := X1.cell (i := 1) rfl; have r2 := X1.cell (i := 2) rfl; have r3 := X1.cell (i := 3) rfl))
  exact bodyPost_ret (v := .agg #[.int .i64 (sat s0), .int .i64 (sat s1), .int .i64 (sat s2), .int .i64 (sat s3)]) (by simp [results, Try.results10, go_sem, r0, r1, r2, r3]) rfl ⟨rfl, BB.trans (B1.mono (by omega))⟩

theorem limited_b (x : Int) (w : World) : Calls Try.prog 38 #[.int .i64 x] w fun e w' => e = .returned (.int .i64 (sat x)) ∧ Below w.heap.size w w' := by
  go_enter Try.func38, Try.ntmps38
  go_wp2
  all_goals go_ret
  all_goals exact ⟨ret_int (by unfold sat; grind), Below.refl _ _⟩

set_option maxRecDepth 100000 in
set_option maxHeartbeats 2000000 in
theorem limitedVec_b (s0 s1 s2 s3 : Int) (w : World) : Calls Try.prog 15 #[.agg #[.int .i64 s0, .int .i64 s1, .int .i64 s2, .int .i64 s3]] w fun e w' => e = .returned (.agg #[.int .i64 (sat s0), .int .i64 (sat s1), .int .i64 (sat s2), .int .i64 (sat s3)]) ∧ Below w.heap.size w w' := by
  have BB := box_below w #[.int .i64 s0, .int .i64 s1, .int .i64 s2, .int .i64 s3] 27
  have X0 := EBox.made w #[.int .i64 s0, .int .i64 s1, .int .i64 s2, .int .i64 s3] 27
  have hsz1 : (w.alloc (.cells #[.int .i64 s0, .int .i64 s1, .int .i64 s2, .int .i64 s3] 27)).heap.size = w.heap.size + 1 := by simp
  have X1 := EBox.made (w.alloc (.cells #[.int .i64 s0, .int .i64 s1, .int .i64 s2, .int .i64 s3] 27)) #[.int .i64 0, .int .i64 0, .int .i64 0, .int .i64 0] 27
  rw [hsz1] at X1
  replace X0 := X0.on (Nat.succ_pos _) (box_below (w.alloc (.cells #[.int .i64 s0, .int .i64 s1, .int .i64 s2, .int .i64 s3] 27)) #[.int .i64 0, .int .i64 0, .int .i64 0, .int .i64 0] 27)
  replace BB := bon BB (box_below (w.alloc (.cells #[.int .i64 s0, .int .i64 s1, .int .i64 s2, .int .i64 s3] 27)) #[.int .i64 0, .int .i64 0, .int .i64 0, .int .i64 0] 27)
  clear hsz1
  have e0 := X0.cell (i := 0) rfl
  have e1 := X0.cell (i := 1) rfl
  have e2 := X0.cell (i := 2) rfl
  have e3 := X0.cell (i := 3) rfl
  clear X0
  have XR := X1
  clear X1
  go_enter Try.func15, Try.ntmps15
  go_wp2_with fail
  have k_e0 := cell_regrown e0
  have k_e1 := cell_regrown e1
  have k_e2 := cell_regrown e2
  have k_e3 := cell_regrown e3
  refine wp_region_tail (n := 13) (by kernel_rfl) (by kernel_rfl) ?_
  simp only [List.take_succ_cons, List.take_zero, List.drop_succ_cons, List.drop_zero]
  repeat (first | go_big_quiet_step ((first | (go_at_call 38; exact Calls.regrown_of (limited_b _ _)))) | quiet_step ((first | (go_at_call 38; exact Calls.regrown_of (limited_b _ _)))))
  refine wpQuiet_nil ?_
  intro W hw'
  have B := below_regrown' hw'
  clear hw' k_e0 k_e1 k_e2 k_e3
  replace BB := bon BB B
  replace e0 := cell_below B e0
  replace e1 := cell_below B e1
  replace e2 := cell_below B e2
  replace e3 := cell_below B e3
  replace XR := XR.on (Nat.succ_pos _) B
  refine esetL (vs := [.int .i64 (sat s0), .int .i64 (sat s1), .int .i64 (sat s2), .int .i64 (sat s3)]) rk_v4 rfl rfl XR rfl rfl (by simp [Value.oneCell']) ?_
  intro V1 X1 B1 hc hf
  clear hc hf
  go_wp2
  have r0 := X1.cell (i := 0) rfl
  have r1 := X1.cell (i := 1) rfl
  have r2 := X1.cell (i := 2) rfl
  have r3 := X1.cell (i := 3) rfl
  exact bodyPost_ret (v := .agg #[.int .i64 (sat s0), .int .i64 (sat s1), .int .i64 (sat s2), .int .i64 (sat s3)]) (by simp [results, Try.results15, go_sem, r0, r1, r2, r3]) rfl ⟨rfl, BB.trans (B1.mono (by omega))⟩

end Go.Proofs.Ytainijafljpiaaa
