/- What oneMinus, saturated, combined of package blend return. -/
import Derived.Test.YtainijafljpiaaaBL1
import Derived.Test.YtainijafljpiaaaVec3
import Derived.Test.YtainijafljpiaaaRowN
namespace Go.Proofs.Ytainijafljpiaaa
set_option linter.unusedSimpArgs false
open Go.RowKit Go.Sort Go.ChangeShapes Go.WideShapes
set_option linter.unusedVariables false

theorem rk_v4 : RowK Try.prog 27 4 := ⟨⟨_, Try.underlying27, rfl⟩, by kernel_rfl⟩

theorem add4z (x0 x1 x2 x3 : Int) (w : World) :
    Calls Try.prog 45 #[.agg #[.int .i64 x0, .int .i64 x1, .int .i64 x2, .int .i64 x3], .agg #[.int .i64 0, .int .i64 0, .int .i64 0, .int .i64 0]] w fun e w' => e = .returned (.agg #[.int .i64 (sat x0), .int .i64 (sat x1), .int .i64 (sat x2), .int .i64 (sat x3)]) ∧ Below w.heap.size w w' := by
  have h := add4 x0 x1 x2 x3 0 0 0 0 w
  simp only [addv, Int.add_zero] at h
  simpa [sat_sat, show sat 0 = 0 by decide] using h

set_option maxRecDepth 100000 in
set_option maxHeartbeats 2000000 in
theorem oneMinus_b (s0 s1 s2 s3 : Int) (w : World) : Calls Try.prog 21 #[.agg #[.int .i64 s0, .int .i64 s1, .int .i64 s2, .int .i64 s3]] w fun e w' => e = .returned (.agg #[.int .i64 (subv 65536 s0), .int .i64 (subv 65536 s1), .int .i64 (subv 65536 s2), .int .i64 (subv 65536 s3)]) ∧ Below w.heap.size w w' := by
  have BB := box_below w #[.int .i64 s0, .int .i64 s1, .int .i64 s2, .int .i64 s3] 27
  have X0 := EBox.made w #[.int .i64 s0, .int .i64 s1, .int .i64 s2, .int .i64 s3] 27
  have hsz1 : (w.alloc (.cells #[.int .i64 s0, .int .i64 s1, .int .i64 s2, .int .i64 s3] 27)).heap.size = w.heap.size + 1 := by simp
  have X1 := EBox.made (w.alloc (.cells #[.int .i64 s0, .int .i64 s1, .int .i64 s2, .int .i64 s3] 27)) #[.int .i64 0, .int .i64 0, .int .i64 0, .int .i64 0] 27
  rw [hsz1] at X1
  replace X0 := X0.on (Nat.succ_pos _) (box_below (w.alloc (.cells #[.int .i64 s0, .int .i64 s1, .int .i64 s2, .int .i64 s3] 27)) #[.int .i64 0, .int .i64 0, .int .i64 0, .int .i64 0] 27)
  replace BB := bon BB (box_below (w.alloc (.cells #[.int .i64 s0, .int .i64 s1, .int .i64 s2, .int .i64 s3] 27)) #[.int .i64 0, .int .i64 0, .int .i64 0, .int .i64 0] 27)
  clear hsz1
  have Ev4_0 := range_cut X0.1 0 4
  simp only [List.drop_succ_cons, List.drop_zero, List.take_succ_cons, List.take_zero, Nat.zero_add] at Ev4_0
  clear X0
  have XR := X1
  clear X1
  go_enter Try.func21, Try.ntmps21
  go_wp2_with fail
  refine wp_region_tail (n := 3) (by kernel_rfl) (by kernel_rfl) ?_
  simp only [List.take_succ_cons, List.take_zero, List.drop_succ_cons, List.drop_zero]
  repeat (first | (go_big_quiet_want; refine quiet_eload _ _ rfl rk_v4 rfl (fun W hW => rangeAt_on Ev4_0 (below_regrown' hW)) rfl ?_; go_simp; go_big_quiet_on) | go_big_quiet_step ((first | (go_at_call 20; exact Calls.regrown_of (same_q _ _)) | (go_at_call 43; exact Calls.regrown_of (sub4 _ _ _ _ _ _ _ _ _)))) | quiet_step ((first | (go_at_call 20; exact Calls.regrown_of (same_q _ _)) | (go_at_call 43; exact Calls.regrown_of (sub4 _ _ _ _ _ _ _ _ _)))))
  refine wpQuiet_nil ?_
  intro W hw'
  have B := below_regrown' hw'
  clear hw'
  replace BB := bon BB B
  replace Ev4_0 := rangeAt_on Ev4_0 B
  replace XR := XR.on (Nat.succ_pos _) B
  refine esetL (vs := [.int .i64 (subv 65536 s0), .int .i64 (subv 65536 s1), .int .i64 (subv 65536 s2), .int .i64 (subv 65536 s3)]) rk_v4 rfl rfl XR rfl rfl (by simp [Value.oneCell']) ?_
  intro V1 X1 B1 hc hf
  clear hc hf
  go_wp2
  have r0 := X1.cell (i := 0) rfl
  have r1 := X1.cell (i := 1) rfl
  have r2 := X1.cell (i := 2) rfl
  have r3 := X1.cell (i := 3) rfl
  exact bodyPost_ret (v := .agg #[.int .i64 (subv 65536 s0), .int .i64 (subv 65536 s1), .int .i64 (subv 65536 s2), .int .i64 (subv 65536 s3)]) (by simp [results, Try.results21, go_sem, r0, r1, r2, r3]) rfl ⟨rfl, BB.trans (B1.mono (by omega))⟩

set_option maxRecDepth 100000 in
set_option maxHeartbeats 2000000 in
theorem combined_b (op s0 s1 s2 s3 f0 f1 f2 f3 t0 t1 t2 t3 g0 g1 g2 g3 : Int) (w : World) : Calls Try.prog 25 #[.int .i64 op, .agg #[.int .i64 s0, .int .i64 s1, .int .i64 s2, .int .i64 s3], .agg #[.int .i64 f0, .int .i64 f1, .int .i64 f2, .int .i64 f3], .agg #[.int .i64 t0, .int .i64 t1, .int .i64 t2, .int .i64 t3], .agg #[.int .i64 g0, .int .i64 g1, .int .i64 g2, .int .i64 g3]] w fun e w' => e = .returned (.agg #[.int .i64 (combv op s0 f0 t0 g0), .int .i64 (combv op s1 f1 t1 g1), .int .i64 (combv op s2 f2 t2 g2), .int .i64 (combv op s3 f3 t3 g3)]) ∧ Below w.heap.size w w' := by
  have BB := box_below w #[.int .i64 s0, .int .i64 s1, .int .i64 s2, .int .i64 s3] 27
  have X0 := EBox.made w #[.int .i64 s0, .int .i64 s1, .int .i64 s2, .int .i64 s3] 27
  have hsz1 : (w.alloc (.cells #[.int .i64 s0, .int .i64 s1, .int .i64 s2, .int .i64 s3] 27)).heap.size = w.heap.size + 1 := by simp
  have X1 := EBox.made (w.alloc (.cells #[.int .i64 s0, .int .i64 s1, .int .i64 s2, .int .i64 s3] 27)) #[.int .i64 f0, .int .i64 f1, .int .i64 f2, .int .i64 f3] 27
  rw [hsz1] at X1
  replace X0 := X0.on (Nat.succ_pos _) (box_below (w.alloc (.cells #[.int .i64 s0, .int .i64 s1, .int .i64 s2, .int .i64 s3] 27)) #[.int .i64 f0, .int .i64 f1, .int .i64 f2, .int .i64 f3] 27)
  replace BB := bon BB (box_below (w.alloc (.cells #[.int .i64 s0, .int .i64 s1, .int .i64 s2, .int .i64 s3] 27)) #[.int .i64 f0, .int .i64 f1, .int .i64 f2, .int .i64 f3] 27)
  clear hsz1
  have hsz2 : ((w.alloc (.cells #[.int .i64 s0, .int .i64 s1, .int .i64 s2, .int .i64 s3] 27)).alloc (.cells #[.int .i64 f0, .int .i64 f1, .int .i64 f2, .int .i64 f3] 27)).heap.size = w.heap.size + 2 := by simp
  have X2 := EBox.made ((w.alloc (.cells #[.int .i64 s0, .int .i64 s1, .int .i64 s2, .int .i64 s3] 27)).alloc (.cells #[.int .i64 f0, .int .i64 f1, .int .i64 f2, .int .i64 f3] 27)) #[.int .i64 t0, .int .i64 t1, .int .i64 t2, .int .i64 t3] 27
  rw [hsz2] at X2
  replace X0 := X0.on (Nat.succ_pos _) (box_below ((w.alloc (.cells #[.int .i64 s0, .int .i64 s1, .int .i64 s2, .int .i64 s3] 27)).alloc (.cells #[.int .i64 f0, .int .i64 f1, .int .i64 f2, .int .i64 f3] 27)) #[.int .i64 t0, .int .i64 t1, .int .i64 t2, .int .i64 t3] 27)
  replace X1 := X1.on (Nat.succ_pos _) (box_below ((w.alloc (.cells #[.int .i64 s0, .int .i64 s1, .int .i64 s2, .int .i64 s3] 27)).alloc (.cells #[.int .i64 f0, .int .i64 f1, .int .i64 f2, .int .i64 f3] 27)) #[.int .i64 t0, .int .i64 t1, .int .i64 t2, .int .i64 t3] 27)
  replace BB := bon BB (box_below ((w.alloc (.cells #[.int .i64 s0, .int .i64 s1, .int .i64 s2, .int .i64 s3] 27)).alloc (.cells #[.int .i64 f0, .int .i64 f1, .int .i64 f2, .int .i64 f3] 27)) #[.int .i64 t0, .int .i64 t1, .int .i64 t2, .int .i64 t3] 27)
  clear hsz2
  have hsz3 : (((w.alloc (.cells #[.int .i64 s0, .int .i64 s1, .int .i64 s2, .int .i64 s3] 27)).alloc (.cells #[.int .i64 f0, .int .i64 f1, .int .i64 f2, .int .i64 f3] 27)).alloc (.cells #[.int .i64 t0, .int .i64 t1, .int .i64 t2, .int .i64 t3] 27)).heap.size = w.heap.size + 3 := by simp
  have X3 := EBox.made (((w.alloc (.cells #[.int .i64 s0, .int .i64 s1, .int .i64 s2, .int .i64 s3] 27)).alloc (.cells #[.int .i64 f0, .int .i64 f1, .int .i64 f2, .int .i64 f3] 27)).alloc (.cells #[.int .i64 t0, .int .i64 t1, .int .i64 t2, .int .i64 t3] 27)) #[.int .i64 g0, .int .i64 g1, .int .i64 g2, .int .i64 g3] 27
  rw [hsz3] at X3
  replace X0 := X0.on (Nat.succ_pos _) (box_below (((w.alloc (.cells #[.int .i64 s0, .int .i64 s1, .int .i64 s2, .int .i64 s3] 27)).alloc (.cells #[.int .i64 f0, .int .i64 f1, .int .i64 f2, .int .i64 f3] 27)).alloc (.cells #[.int .i64 t0, .int .i64 t1, .int .i64 t2, .int .i64 t3] 27)) #[.int .i64 g0, .int .i64 g1, .int .i64 g2, .int .i64 g3] 27)
  replace X1 := X1.on (Nat.succ_pos _) (box_below (((w.alloc (.cells #[.int .i64 s0, .int .i64 s1, .int .i64 s2, .int .i64 s3] 27)).alloc (.cells #[.int .i64 f0, .int .i64 f1, .int .i64 f2, .int .i64 f3] 27)).alloc (.cells #[.int .i64 t0, .int .i64 t1, .int .i64 t2, .int .i64 t3] 27)) #[.int .i64 g0, .int .i64 g1, .int .i64 g2, .int .i64 g3] 27)
  replace X2 := X2.on (Nat.succ_pos _) (box_below (((w.alloc (.cells #[.int .i64 s0, .int .i64 s1, .int .i64 s2, .int .i64 s3] 27)).alloc (.cells #[.int .i64 f0, .int .i64 f1, .int .i64 f2, .int .i64 f3] 27)).alloc (.cells #[.int .i64 t0, .int .i64 t1, .int .i64 t2, .int .i64 t3] 27)) #[.int .i64 g0, .int .i64 g1, .int .i64 g2, .int .i64 g3] 27)
  replace BB := bon BB (box_below (((w.alloc (.cells #[.int .i64 s0, .int .i64 s1, .int .i64 s2, .int .i64 s3] 27)).alloc (.cells #[.int .i64 f0, .int .i64 f1, .int .i64 f2, .int .i64 f3] 27)).alloc (.cells #[.int .i64 t0, .int .i64 t1, .int .i64 t2, .int .i64 t3] 27)) #[.int .i64 g0, .int .i64 g1, .int .i64 g2, .int .i64 g3] 27)
  clear hsz3
  have hsz4 : ((((w.alloc (.cells #[.int .i64 s0, .int .i64 s1, .int .i64 s2, .int .i64 s3] 27)).alloc (.cells #[.int .i64 f0, .int .i64 f1, .int .i64 f2, .int .i64 f3] 27)).alloc (.cells #[.int .i64 t0, .int .i64 t1, .int .i64 t2, .int .i64 t3] 27)).alloc (.cells #[.int .i64 g0, .int .i64 g1, .int .i64 g2, .int .i64 g3] 27)).heap.size = w.heap.size + 4 := by simp
  have X4 := EBox.made ((((w.alloc (.cells #[.int .i64 s0, .int .i64 s1, .int .i64 s2, .int .i64 s3] 27)).alloc (.cells #[.int .i64 f0, .int .i64 f1, .int .i64 f2, .int .i64 f3] 27)).alloc (.cells #[.int .i64 t0, .int .i64 t1, .int .i64 t2, .int .i64 t3] 27)).alloc (.cells #[.int .i64 g0, .int .i64 g1, .int .i64 g2, .int .i64 g3] 27)) #[.int .i64 0, .int .i64 0, .int .i64 0, .int .i64 0] 27
  rw [hsz4] at X4
  replace X0 := X0.on (Nat.succ_pos _) (box_below ((((w.alloc (.cells #[.int .i64 s0, .int .i64 s1, .int .i64 s2, .int .i64 s3] 27)).alloc (.cells #[.int .i64 f0, .int .i64 f1, .int .i64 f2, .int .i64 f3] 27)).alloc (.cells #[.int .i64 t0, .int .i64 t1, .int .i64 t2, .int .i64 t3] 27)).alloc (.cells #[.int .i64 g0, .int .i64 g1, .int .i64 g2, .int .i64 g3] 27)) #[.int .i64 0, .int .i64 0, .int .i64 0, .int .i64 0] 27)
  replace X1 := X1.on (Nat.succ_pos _) (box_below ((((w.alloc (.cells #[.int .i64 s0, .int .i64 s1, .int .i64 s2, .int .i64 s3] 27)).alloc (.cells #[.int .i64 f0, .int .i64 f1, .int .i64 f2, .int .i64 f3] 27)).alloc (.cells #[.int .i64 t0, .int .i64 t1, .int .i64 t2, .int .i64 t3] 27)).alloc (.cells #[.int .i64 g0, .int .i64 g1, .int .i64 g2, .int .i64 g3] 27)) #[.int .i64 0, .int .i64 0, .int .i64 0, .int .i64 0] 27)
  replace X2 := X2.on (Nat.succ_pos _) (box_below ((((w.alloc (.cells #[.int .i64 s0, .int .i64 s1, .int .i64 s2, .int .i64 s3] 27)).alloc (.cells #[.int .i64 f0, .int .i64 f1, .int .i64 f2, .int .i64 f3] 27)).alloc (.cells #[.int .i64 t0, .int .i64 t1, .int .i64 t2, .int .i64 t3] 27)).alloc (.cells #[.int .i64 g0, .int .i64 g1, .int .i64 g2, .int .i64 g3] 27)) #[.int .i64 0, .int .i64 0, .int .i64 0, .int .i64 0] 27)
  replace X3 := X3.on (Nat.succ_pos _) (box_below ((((w.alloc (.cells #[.int .i64 s0, .int .i64 s1, .int .i64 s2, .int .i64 s3] 27)).alloc (.cells #[.int .i64 f0, .int .i64 f1, .int .i64 f2, .int .i64 f3] 27)).alloc (.cells #[.int .i64 t0, .int .i64 t1, .int .i64 t2, .int .i64 t3] 27)).alloc (.cells #[.int .i64 g0, .int .i64 g1, .int .i64 g2, .int .i64 g3] 27)) #[.int .i64 0, .int .i64 0, .int .i64 0, .int .i64 0] 27)
  replace BB := bon BB (box_below ((((w.alloc (.cells #[.int .i64 s0, .int .i64 s1, .int .i64 s2, .int .i64 s3] 27)).alloc (.cells #[.int .i64 f0, .int .i64 f1, .int .i64 f2, .int .i64 f3] 27)).alloc (.cells #[.int .i64 t0, .int .i64 t1, .int .i64 t2, .int .i64 t3] 27)).alloc (.cells #[.int .i64 g0, .int .i64 g1, .int .i64 g2, .int .i64 g3] 27)) #[.int .i64 0, .int .i64 0, .int .i64 0, .int .i64 0] 27)
  clear hsz4
  have ss0 := X0.cell (i := 0) rfl
  have ss1 := X0.cell (i := 1) rfl
  have ss2 := X0.cell (i := 2) rfl
  have ss3 := X0.cell (i := 3) rfl
  have ff0 := X1.cell (i := 0) rfl
  have ff1 := X1.cell (i := 1) rfl
  have ff2 := X1.cell (i := 2) rfl
  have ff3 := X1.cell (i := 3) rfl
  have tt0 := X2.cell (i := 0) rfl
  have tt1 := X2.cell (i := 1) rfl
  have tt2 := X2.cell (i := 2) rfl
  have tt3 := X2.cell (i := 3) rfl
  have gg0 := X3.cell (i := 0) rfl
  have gg1 := X3.cell (i := 1) rfl
  have gg2 := X3.cell (i := 2) rfl
  have gg3 := X3.cell (i := 3) rfl
  clear X0 X1 X2 X3
  have XR := X4
  clear X4
  go_enter Try.func25, Try.ntmps25
  go_wp2_with fail
  have k_ss0 := cell_regrown ss0
  have k_ss1 := cell_regrown ss1
  have k_ss2 := cell_regrown ss2
  have k_ss3 := cell_regrown ss3
  have k_ff0 := cell_regrown ff0
  have k_ff1 := cell_regrown ff1
  have k_ff2 := cell_regrown ff2
  have k_ff3 := cell_regrown ff3
  have k_tt0 := cell_regrown tt0
  have k_tt1 := cell_regrown tt1
  have k_tt2 := cell_regrown tt2
  have k_tt3 := cell_regrown tt3
  have k_gg0 := cell_regrown gg0
  have k_gg1 := cell_regrown gg1
  have k_gg2 := cell_regrown gg2
  have k_gg3 := cell_regrown gg3
  refine wp_region_tail (n := 41) (by kernel_rfl) (by kernel_rfl) ?_
  simp only [List.take_succ_cons, List.take_zero, List.drop_succ_cons, List.drop_zero]
  repeat (first | go_big_quiet_step ((first | (go_at_call 13; exact Calls.regrown_of (combine_b _ _ _ _ _ _)))) | quiet_step ((first | (go_at_call 13; exact Calls.regrown_of (combine_b _ _ _ _ _ _)))))
  refine wpQuiet_nil ?_
  intro W hw'
  have B := below_regrown' hw'
  clear hw' k_ss0 k_ss1 k_ss2 k_ss3 k_ff0 k_ff1 k_ff2 k_ff3 k_tt0 k_tt1 k_tt2 k_tt3 k_gg0 k_gg1 k_gg2 k_gg3
  replace BB := bon BB B
  replace ss0 := cell_below B ss0
  replace ss1 := cell_below B ss1
  replace ss2 := cell_below B ss2
  replace ss3 := cell_below B ss3
  replace ff0 := cell_below B ff0
  replace ff1 := cell_below B ff1
  replace ff2 := cell_below B ff2
  replace ff3 := cell_below B ff3
  replace tt0 := cell_below B tt0
  replace tt1 := cell_below B tt1
  replace tt2 := cell_below B tt2
  replace tt3 := cell_below B tt3
  replace gg0 := cell_below B gg0
  replace gg1 := cell_below B gg1
  replace gg2 := cell_below B gg2
  replace gg3 := cell_below B gg3
  replace XR := XR.on (Nat.succ_pos _) B
  refine esetL (vs := [.int .i64 (combv op s0 f0 t0 g0), .int .i64 (combv op s1 f1 t1 g1), .int .i64 (combv op s2 f2 t2 g2), .int .i64 (combv op s3 f3 t3 g3)]) rk_v4 rfl rfl XR rfl rfl (by simp [Value.oneCell']) ?_
  intro V1 X1 B1 hc hf
  clear hc hf
  go_wp2
  have r0 := X1.cell (i := 0) rfl
  have r1 := X1.cell (i := 1) rfl
  have r2 := X1.cell (i := 2) rfl
  have r3 := X1.cell (i := 3) rfl
  exact bodyPost_ret (v := .agg #[.int .i64 (combv op s0 f0 t0 g0), .int .i64 (combv op s1 f1 t1 g1), .int .i64 (combv op s2 f2 t2 g2), .int .i64 (combv op s3 f3 t3 g3)]) (by simp [results, Try.results25, go_sem, r0, r1, r2, r3]) rfl ⟨rfl, BB.trans (B1.mono (by omega))⟩

end Go.Proofs.Ytainijafljpiaaa
