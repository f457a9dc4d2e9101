/- What Blend of package blend returns, enabled. -/
import Derived.Test.YtainijafljpiaaaBL3
import Derived.Test.YtainijafljpiaaaCopy
namespace Go.Proofs.Ytainijafljpiaaa
set_option linter.unusedSimpArgs false
open Go.RowKit Go.Sort Go.ChangeShapes Go.WideShapes
set_option linter.unusedVariables false

theorem zero_v4 : ZeroIs Try.prog 27 #[.int .i64 0, .int .i64 0, .int .i64 0, .int .i64 0] := zeroIs_of (by kernel_rfl)

theorem with3 (x0 x1 x2 x3 x : Int) (w : World) : Calls Try.prog 26 #[.agg #[.int .i64 x0, .int .i64 x1, .int .i64 x2, .int .i64 x3], .int .i64 3, .int .i64 x] w fun e w' => e = .returned (.agg #[.int .i64 x0, .int .i64 x1, .int .i64 x2, .int .i64 x]) ∧ Below w.heap.size w w' := by
  have h := with_b x0 x1 x2 x3 3 x w
  simpa [withv] using h

set_option maxRecDepth 100000 in
set_option maxHeartbeats 8000000 in
theorem blend_on (sc tc cop sa ta aop mk s0 s1 s2 s3 t0 t1 t2 t3 f0 f1 f2 f3 g0 g1 g2 g3 a0 a1 a2 a3 b0 b1 b2 b3 c0 c1 c2 c3 d0 d1 d2 d3 : Int) (CF : Hid (∀ W : World, Calls Try.prog 8 #[.int .i64 sc, .agg #[.int .i64 s0, .int .i64 s1, .int .i64 s2, .int .i64 s3], .agg #[.int .i64 t0, .int .i64 t1, .int .i64 t2, .int .i64 t3]] W fun e w' => e = .returned (.agg #[.int .i64 f0, .int .i64 f1, .int .i64 f2, .int .i64 f3]) ∧ Below W.heap.size W w')) (CG : Hid (∀ W : World, Calls Try.prog 8 #[.int .i64 tc, .agg #[.int .i64 s0, .int .i64 s1, .int .i64 s2, .int .i64 s3], .agg #[.int .i64 t0, .int .i64 t1, .int .i64 t2, .int .i64 t3]] W fun e w' => e = .returned (.agg #[.int .i64 g0, .int .i64 g1, .int .i64 g2, .int .i64 g3]) ∧ Below W.heap.size W w')) (CA : Hid (∀ W : World, Calls Try.prog 8 #[.int .i64 sa, .agg #[.int .i64 s0, .int .i64 s1, .int .i64 s2, .int .i64 s3], .agg #[.int .i64 t0, .int .i64 t1, .int .i64 t2, .int .i64 t3]] W fun e w' => e = .returned (.agg #[.int .i64 a0, .int .i64 a1, .int .i64 a2, .int .i64 a3]) ∧ Below W.heap.size W w')) (CB : Hid (∀ W : World, Calls Try.prog 8 #[.int .i64 ta, .agg #[.int .i64 s0, .int .i64 s1, .int .i64 s2, .int .i64 s3], .agg #[.int .i64 t0, .int .i64 t1, .int .i64 t2, .int .i64 t3]] W fun e w' => e = .returned (.agg #[.int .i64 b0, .int .i64 b1, .int .i64 b2, .int .i64 b3]) ∧ Below W.heap.size W w')) (KC : Hid (∀ W : World, Calls Try.prog 25 #[.int .i64 cop, .agg #[.int .i64 s0, .int .i64 s1, .int .i64 s2, .int .i64 s3], .agg #[.int .i64 f0, .int .i64 f1, .int .i64 f2, .int .i64 f3], .agg #[.int .i64 t0, .int .i64 t1, .int .i64 t2, .int .i64 t3], .agg #[.int .i64 g0, .int .i64 g1, .int .i64 g2, .int .i64 g3]] W fun e w' => e = .returned (.agg #[.int .i64 c0, .int .i64 c1, .int .i64 c2, .int .i64 c3]) ∧ Below W.heap.size W w')) (KD : Hid (∀ W : World, Calls Try.prog 25 #[.int .i64 aop, .agg #[.int .i64 s0, .int .i64 s1, .int .i64 s2, .int .i64 s3], .agg #[.int .i64 a0, .int .i64 a1, .int .i64 a2, .int .i64 a3], .agg #[.int .i64 t0, .int .i64 t1, .int .i64 t2, .int .i64 t3], .agg #[.int .i64 b0, .int .i64 b1, .int .i64 b2, .int .i64 b3]] W fun e w' => e = .returned (.agg #[.int .i64 d0, .int .i64 d1, .int .i64 d2, .int .i64 d3]) ∧ Below W.heap.size W w')) (w : World) : Calls Try.prog 10 #[.agg #[.bool true, .int .i64 sc, .int .i64 tc, .int .i64 cop, .int .i64 sa, .int .i64 ta, .int .i64 aop, .int .i64 mk], .agg #[.int .i64 s0, .int .i64 s1, .int .i64 s2, .int .i64 s3], .agg #[.int .i64 t0, .int .i64 t1, .int .i64 t2, .int .i64 t3]] w fun e w' => e = .returned (.agg #[.int .i64 c0, .int .i64 c1, .int .i64 c2, .int .i64 d3]) ∧ Below w.heap.size w w' := by
  have BB := box_below w #[.bool true, .int .i64 sc, .int .i64 tc, .int .i64 cop, .int .i64 sa, .int .i64 ta, .int .i64 aop, .int .i64 mk] 25
  have X0 := EBox.made w #[.bool true, .int .i64 sc, .int .i64 tc, .int .i64 cop, .int .i64 sa, .int .i64 ta, .int .i64 aop, .int .i64 mk] 25
  have hsz1 : (w.alloc (.cells #[.bool true, .int .i64 sc, .int .i64 tc, .int .i64 cop, .int .i64 sa, .int .i64 ta, .int .i64 aop, .int .i64 mk] 25)).heap.size = w.heap.size + 1 := by simp
  have X1 := EBox.made (w.alloc (.cells #[.bool true, .int .i64 sc, .int .i64 tc, .int .i64 cop, .int .i64 sa, .int .i64 ta, .int .i64 aop, .int .i64 mk] 25)) #[.int .i64 s0, .int .i64 s1, .int .i64 s2, .int .i64 s3] 27
  rw [hsz1] at X1
  replace X0 := X0.on (Nat.succ_pos _) (box_below (w.alloc (.cells #[.bool true, .int .i64 sc, .int .i64 tc, .int .i64 cop, .int .i64 sa, .int .i64 ta, .int .i64 aop, .int .i64 mk] 25)) #[.int .i64 s0, .int .i64 s1, .int .i64 s2, .int .i64 s3] 27)
  replace BB := bon BB (box_below (w.alloc (.cells #[.bool true, .int .i64 sc, .int .i64 tc, .int .i64 cop, .int .i64 sa, .int .i64 ta, .int .i64 aop, .int .i64 mk] 25)) #[.int .i64 s0, .int .i64 s1, .int .i64 s2, .int .i64 s3] 27)
  clear hsz1
  have hsz2 : ((w.alloc (.cells #[.bool true, .int .i64 sc, .int .i64 tc, .int .i64 cop, .int .i64 sa, .int .i64 ta, .int .i64 aop, .int .i64 mk] 25)).alloc (.cells #[.int .i64 s0, .int .i64 s1, .int .i64 s2, .int .i64 s3] 27)).heap.size = w.heap.size + 2 := by simp
  have X2 := EBox.made ((w.alloc (.cells #[.bool true, .int .i64 sc, .int .i64 tc, .int .i64 cop, .int .i64 sa, .int .i64 ta, .int .i64 aop, .int .i64 mk] 25)).alloc (.cells #[.int .i64 s0, .int .i64 s1, .int .i64 s2, .int .i64 s3] 27)) #[.int .i64 t0, .int .i64 t1, .int .i64 t2, .int .i64 t3] 27
  rw [hsz2] at X2
  replace X0 := X0.on (Nat.succ_pos _) (box_below ((w.alloc (.cells #[.bool true, .int .i64 sc, .int .i64 tc, .int .i64 cop, .int .i64 sa, .int .i64 ta, .int .i64 aop, .int .i64 mk] 25)).alloc (.cells #[.int .i64 s0, .int .i64 s1, .int .i64 s2, .int .i64 s3] 27)) #[.int .i64 t0, .int .i64 t1, .int .i64 t2, .int .i64 t3] 27)
  replace X1 := X1.on (Nat.succ_pos _) (box_below ((w.alloc (.cells #[.bool true, .int .i64 sc, .int .i64 tc, .int .i64 cop, .int .i64 sa, .int .i64 ta, .int .i64 aop, .int .i64 mk] 25)).alloc (.cells #[.int .i64 s0, .int .i64 s1, .int .i64 s2, .int .i64 s3] 27)) #[.int .i64 t0, .int .i64 t1, .int .i64 t2, .int .i64 t3] 27)
  replace BB := bon BB (box_below ((w.alloc (.cells #[.bool true, .int .i64 sc, .int .i64 tc, .int .i64 cop, .int .i64 sa, .int .i64 ta, .int .i64 aop, .int .i64 mk] 25)).alloc (.cells #[.int .i64 s0, .int .i64 s1, .int .i64 s2, .int .i64 s3] 27)) #[.int .i64 t0, .int .i64 t1, .int .i64 t2, .int .i64 t3] 27)
  clear hsz2
  have hsz3 : (((w.alloc (.cells #[.bool true, .int .i64 sc, .int .i64 tc, .int .i64 cop, .int .i64 sa, .int .i64 ta, .int .i64 aop, .int .i64 mk] 25)).alloc (.cells #[.int .i64 s0, .int .i64 s1, .int .i64 s2, .int .i64 s3] 27)).alloc (.cells #[.int .i64 t0, .int .i64 t1, .int .i64 t2, .int .i64 t3] 27)).heap.size = w.heap.size + 3 := by simp
  have X3 := EBox.made (((w.alloc (.cells #[.bool true, .int .i64 sc, .int .i64 tc, .int .i64 cop, .int .i64 sa, .int .i64 ta, .int .i64 aop, .int .i64 mk] 25)).alloc (.cells #[.int .i64 s0, .int .i64 s1, .int .i64 s2, .int .i64 s3] 27)).alloc (.cells #[.int .i64 t0, .int .i64 t1, .int .i64 t2, .int .i64 t3] 27)) #[.int .i64 0, .int .i64 0, .int .i64 0, .int .i64 0] 27
  rw [hsz3] at X3
  replace X0 := X0.on (Nat.succ_pos _) (box_below (((w.alloc (.cells #[.bool true, .int .i64 sc, .int .i64 tc, .int .i64 cop, .int .i64 sa, .int .i64 ta, .int .i64 aop, .int .i64 mk] 25)).alloc (.cells #[.int .i64 s0, .int .i64 s1, .int .i64 s2, .int .i64 s3] 27)).alloc (.cells #[.int .i64 t0, .int .i64 t1, .int .i64 t2, .int .i64 t3] 27)) #[.int .i64 0, .int .i64 0, .int .i64 0, .int .i64 0] 27)
  replace X1 := X1.on (Nat.succ_pos _) (box_below (((w.alloc (.cells #[.bool true, .int .i64 sc, .int .i64 tc, .int .i64 cop, .int .i64 sa, .int .i64 ta, .int .i64 aop, .int .i64 mk] 25)).alloc (.cells #[.int .i64 s0, .int .i64 s1, .int .i64 s2, .int .i64 s3] 27)).alloc (.cells #[.int .i64 t0, .int .i64 t1, .int .i64 t2, .int .i64 t3] 27)) #[.int .i64 0, .int .i64 0, .int .i64 0, .int .i64 0] 27)
  replace X2 := X2.on (Nat.succ_pos _) (box_below (((w.alloc (.cells #[.bool true, .int .i64 sc, .int .i64 tc, .int .i64 cop, .int .i64 sa, .int .i64 ta, .int .i64 aop, .int .i64 mk] 25)).alloc (.cells #[.int .i64 s0, .int .i64 s1, .int .i64 s2, .int .i64 s3] 27)).alloc (.cells #[.int .i64 t0, .int .i64 t1, .int .i64 t2, .int .i64 t3] 27)) #[.int .i64 0, .int .i64 0, .int .i64 0, .int .i64 0] 27)
  replace BB := bon BB (box_below (((w.alloc (.cells #[.bool true, .int .i64 sc, .int .i64 tc, .int .i64 cop, .int .i64 sa, .int .i64 ta, .int .i64 aop, .int .i64 mk] 25)).alloc (.cells #[.int .i64 s0, .int .i64 s1, .int .i64 s2, .int .i64 s3] 27)).alloc (.cells #[.int .i64 t0, .int .i64 t1, .int .i64 t2, .int .i64 t3] 27)) #[.int .i64 0, .int .i64 0, .int .i64 0, .int .i64 0] 27)
  clear hsz3
  have e0 := X0.cell (i := 0) rfl
  have e1 := X0.cell (i := 1) rfl
  have e2 := X0.cell (i := 2) rfl
  have e3 := X0.cell (i := 3) rfl
  have e4 := X0.cell (i := 4) rfl
  have e5 := X0.cell (i := 5) rfl
  have e6 := X0.cell (i := 6) rfl
  have Ev4_0 := range_cut X1.1 0 4
  simp only [List.drop_succ_cons, List.drop_zero, List.take_succ_cons, List.take_zero, Nat.zero_add] at Ev4_0
  have Ev4_1 := range_cut X2.1 0 4
  simp only [List.drop_succ_cons, List.drop_zero, List.take_succ_cons, List.take_zero, Nat.zero_add] at Ev4_1
  clear X0 X1 X2
  have XR := X3
  clear X3
  go_enter Try.func10, Try.ntmps10
  go_wp2_with fail
  generalize ((((w.alloc (.cells #[.bool true, .int .i64 sc, .int .i64 tc, .int .i64 cop, .int .i64 sa, .int .i64 ta, .int .i64 aop, .int .i64 mk] 25)).alloc (.cells #[.int .i64 s0, .int .i64 s1, .int .i64 s2, .int .i64 s3] 27)).alloc (.cells #[.int .i64 t0, .int .i64 t1, .int .i64 t2, .int .i64 t3] 27)).alloc (.cells #[.int .i64 0, .int .i64 0, .int .i64 0, .int .i64 0] 27)) = V2 at *
  have k_e1 := cell_regrown e1
  have k_e2 := cell_regrown e2
  have k_e3 := cell_regrown e3
  have k_e4 := cell_regrown e4
  have k_e5 := cell_regrown e5
  have k_e6 := cell_regrown e6
  have L0 := Lib.hid (XR.lt (Nat.succ_pos _))
  refine wp_region_tree (.read 0 (.read 1 (.read 2 (.read 3 (.read 4 (.read 5 (.read 6 (.read 8 (.read 9 (.read 10 (.read 11 (.read 12 (.fork2 7 (.fork2 13 (.fork2 14 (.fork1 15 (.fork1 16 .nil)) 15 (.fork1 14 (.fork1 16 .nil))) 15 (.fork1 13 (.fork1 14 (.fork1 16 .nil)))) 15 (.fork1 7 (.fork1 13 (.fork1 14 (.fork1 16 .nil))))))))))))))))) (by kernel_rfl) (by kernel_rfl) ?_
  intro U1 BT
  refine tree_read rfl ?_
  (first | ((try simp only [List.getElem_toArray, List.getElem_cons_succ, List.getElem_cons_zero]); go_big_quiet_want; refine quiet_eload _ _ rfl rk_v4 rfl (fun W hW => rangeAt_on Ev4_0 (below_regrown' hW)) rfl ?_; go_simp; go_big_quiet_on) | ((try simp only [List.getElem_toArray, List.getElem_cons_succ, List.getElem_cons_zero]); go_big_quiet_want; refine quiet_eload _ _ rfl rk_v4 rfl (fun W hW => rangeAt_on Ev4_1 (below_regrown' hW)) rfl ?_; go_simp; go_big_quiet_on) | go_big_quiet_step (fail) | quiet_step (fail))
  refine wpQuiet_nil ?_
  refine tree_read rfl ?_
  (first | ((try simp only [List.getElem_toArray, List.getElem_cons_succ, List.getElem_cons_zero]); go_big_quiet_want; refine quiet_eload _ _ rfl rk_v4 rfl (fun W hW => rangeAt_on Ev4_0 (below_regrown' hW)) rfl ?_; go_simp; go_big_quiet_on) | ((try simp only [List.getElem_toArray, List.getElem_cons_succ, List.getElem_cons_zero]); go_big_quiet_want; refine quiet_eload _ _ rfl rk_v4 rfl (fun W hW => rangeAt_on Ev4_1 (below_regrown' hW)) rfl ?_; go_simp; go_big_quiet_on) | go_big_quiet_step (fail) | quiet_step (fail))
  refine wpQuiet_nil ?_
  refine tree_read rfl ?_
  (first | ((try simp only [List.getElem_toArray, List.getElem_cons_succ, List.getElem_cons_zero]); go_big_quiet_want; refine quiet_eload _ _ rfl rk_v4 rfl (fun W hW => rangeAt_on Ev4_0 (below_regrown' hW)) rfl ?_; go_simp; go_big_quiet_on) | ((try simp only [List.getElem_toArray, List.getElem_cons_succ, List.getElem_cons_zero]); go_big_quiet_want; refine quiet_eload _ _ rfl rk_v4 rfl (fun W hW => rangeAt_on Ev4_1 (below_regrown' hW)) rfl ?_; go_simp; go_big_quiet_on) | go_big_quiet_step (fail) | quiet_step (fail))
  refine wpQuiet_nil ?_
  refine tree_read rfl ?_
  (first | ((try simp only [List.getElem_toArray, List.getElem_cons_succ, List.getElem_cons_zero]); go_big_quiet_want; refine quiet_eload _ _ rfl rk_v4 rfl (fun W hW => rangeAt_on Ev4_0 (below_regrown' hW)) rfl ?_; go_simp; go_big_quiet_on) | ((try simp only [List.getElem_toArray, List.getElem_cons_succ, List.getElem_cons_zero]); go_big_quiet_want; refine quiet_eload _ _ rfl rk_v4 rfl (fun W hW => rangeAt_on Ev4_1 (below_regrown' hW)) rfl ?_; go_simp; go_big_quiet_on) | go_big_quiet_step (fail) | quiet_step (fail))
  refine wpQuiet_nil ?_
  refine tree_read rfl ?_
  (first | ((try simp only [List.getElem_toArray, List.getElem_cons_succ, List.getElem_cons_zero]); go_big_quiet_want; refine quiet_eload _ _ rfl rk_v4 rfl (fun W hW => rangeAt_on Ev4_0 (below_regrown' hW)) rfl ?_; go_simp; go_big_quiet_on) | ((try simp only [List.getElem_toArray, List.getElem_cons_succ, List.getElem_cons_zero]); go_big_quiet_want; refine quiet_eload _ _ rfl rk_v4 rfl (fun W hW => rangeAt_on Ev4_1 (below_regrown' hW)) rfl ?_; go_simp; go_big_quiet_on) | go_big_quiet_step (fail) | quiet_step (fail))
  refine wpQuiet_nil ?_
  refine tree_read rfl ?_
  (first | ((try simp only [List.getElem_toArray, List.getElem_cons_succ, List.getElem_cons_zero]); go_big_quiet_want; refine quiet_eload _ _ rfl rk_v4 rfl (fun W hW => rangeAt_on Ev4_0 (below_regrown' hW)) rfl ?_; go_simp; go_big_quiet_on) | ((try simp only [List.getElem_toArray, List.getElem_cons_succ, List.getElem_cons_zero]); go_big_quiet_want; refine quiet_eload _ _ rfl rk_v4 rfl (fun W hW => rangeAt_on Ev4_1 (below_regrown' hW)) rfl ?_; go_simp; go_big_quiet_on) | go_big_quiet_step (fail) | quiet_step (fail))
  refine wpQuiet_nil ?_
  refine tree_read rfl ?_
  (first | ((try simp only [List.getElem_toArray, List.getElem_cons_succ, List.getElem_cons_zero]); go_big_quiet_want; refine quiet_eload _ _ rfl rk_v4 rfl (fun W hW => rangeAt_on Ev4_0 (below_regrown' hW)) rfl ?_; go_simp; go_big_quiet_on) | ((try simp only [List.getElem_toArray, List.getElem_cons_succ, List.getElem_cons_zero]); go_big_quiet_want; refine quiet_eload _ _ rfl rk_v4 rfl (fun W hW => rangeAt_on Ev4_1 (below_regrown' hW)) rfl ?_; go_simp; go_big_quiet_on) | go_big_quiet_step (fail) | quiet_step (fail))
  refine wpQuiet_nil ?_
  refine tree_read rfl ?_
  (first | ((try simp only [List.getElem_toArray, List.getElem_cons_succ, List.getElem_cons_zero]); go_big_quiet_want; refine quiet_eload _ _ rfl rk_v4 rfl (fun W hW => rangeAt_on Ev4_0 (below_regrown' hW)) rfl ?_; go_simp; go_big_quiet_on) | ((try simp only [List.getElem_toArray, List.getElem_cons_succ, List.getElem_cons_zero]); go_big_quiet_want; refine quiet_eload _ _ rfl rk_v4 rfl (fun W hW => rangeAt_on Ev4_1 (below_regrown' hW)) rfl ?_; go_simp; go_big_quiet_on) | go_big_quiet_step (fail) | quiet_step (fail))
  refine wpQuiet_nil ?_
  refine tree_read rfl ?_
  (first | ((try simp only [List.getElem_toArray, List.getElem_cons_succ, List.getElem_cons_zero]); go_big_quiet_want; refine quiet_eload _ _ rfl rk_v4 rfl (fun W hW => rangeAt_on Ev4_0 (below_regrown' hW)) rfl ?_; go_simp; go_big_quiet_on) | ((try simp only [List.getElem_toArray, List.getElem_cons_succ, List.getElem_cons_zero]); go_big_quiet_want; refine quiet_eload _ _ rfl rk_v4 rfl (fun W hW => rangeAt_on Ev4_1 (below_regrown' hW)) rfl ?_; go_simp; go_big_quiet_on) | go_big_quiet_step (fail) | quiet_step (fail))
  refine wpQuiet_nil ?_
  refine tree_read rfl ?_
  (first | ((try simp only [List.getElem_toArray, List.getElem_cons_succ, List.getElem_cons_zero]); go_big_quiet_want; refine quiet_eload _ _ rfl rk_v4 rfl (fun W hW => rangeAt_on Ev4_0 (below_regrown' hW)) rfl ?_; go_simp; go_big_quiet_on) | ((try simp only [List.getElem_toArray, List.getElem_cons_succ, List.getElem_cons_zero]); go_big_quiet_want; refine quiet_eload _ _ rfl rk_v4 rfl (fun W hW => rangeAt_on Ev4_1 (below_regrown' hW)) rfl ?_; go_simp; go_big_quiet_on) | go_big_quiet_step (fail) | quiet_step (fail))
  refine wpQuiet_nil ?_
  refine tree_read rfl ?_
  (first | ((try simp only [List.getElem_toArray, List.getElem_cons_succ, List.getElem_cons_zero]); go_big_quiet_want; refine quiet_eload _ _ rfl rk_v4 rfl (fun W hW => rangeAt_on Ev4_0 (below_regrown' hW)) rfl ?_; go_simp; go_big_quiet_on) | ((try simp only [List.getElem_toArray, List.getElem_cons_succ, List.getElem_cons_zero]); go_big_quiet_want; refine quiet_eload _ _ rfl rk_v4 rfl (fun W hW => rangeAt_on Ev4_1 (below_regrown' hW)) rfl ?_; go_simp; go_big_quiet_on) | go_big_quiet_step (fail) | quiet_step (fail))
  refine wpQuiet_nil ?_
  refine tree_read rfl ?_
  (first | ((try simp only [List.getElem_toArray, List.getElem_cons_succ, List.getElem_cons_zero]); go_big_quiet_want; refine quiet_eload _ _ rfl rk_v4 rfl (fun W hW => rangeAt_on Ev4_0 (below_regrown' hW)) rfl ?_; go_simp; go_big_quiet_on) | ((try simp only [List.getElem_toArray, List.getElem_cons_succ, List.getElem_cons_zero]); go_big_quiet_want; refine quiet_eload _ _ rfl rk_v4 rfl (fun W hW => rangeAt_on Ev4_1 (below_regrown' hW)) rfl ?_; go_simp; go_big_quiet_on) | go_big_quiet_step (fail) | quiet_step (fail))
  refine wpQuiet_nil ?_
  clear k_e1 k_e2 k_e3 k_e4 k_e5 k_e6
  replace e1 := cell_below BT e1
  replace e2 := cell_below BT e2
  replace e3 := cell_below BT e3
  replace e4 := cell_below BT e4
  replace e5 := cell_below BT e5
  replace e6 := cell_below BT e6
  replace Ev4_0 := rangeAt_on Ev4_0 BT
  replace Ev4_1 := rangeAt_on Ev4_1 BT
  replace XR := XR.on (Nat.succ_pos _) BT
  refine tree_two rfl rfl ?_ ?_
  · skip
    go_wp2_with (go_at_call 8; (with_reducible refine (CF.out _).mono ?_); rintro _ U2 ⟨rfl, B⟩; replace BT := bon BT B; replace e1 := cell_below B e1; replace e2 := cell_below B e2; replace e3 := cell_below B e3; replace e4 := cell_below B e4; replace e5 := cell_below B e5; replace e6 := cell_below B e6; replace Ev4_0 := rangeAt_on Ev4_0 B; replace Ev4_1 := rangeAt_on Ev4_1 B; replace XR := XR.on (Nat.succ_pos _) B; clear B)
    refine ⟨Ahead.of BT, ?_⟩
    refine tree_two rfl rfl ?_ ?_
    · skip
      go_wp2_with (go_at_call 8; (with_reducible refine (CG.out _).mono ?_); rintro _ U3 ⟨rfl, B⟩; replace BT := bon BT B; replace e1 := cell_below B e1; replace e2 := cell_below B e2; replace e3 := cell_below B e3; replace e4 := cell_below B e4; replace e5 := cell_below B e5; replace e6 := cell_below B e6; replace Ev4_0 := rangeAt_on Ev4_0 B; replace Ev4_1 := rangeAt_on Ev4_1 B; replace XR := XR.on (Nat.succ_pos _) B; clear B)
      refine ⟨Ahead.of BT, ?_⟩
      refine tree_two rfl rfl ?_ ?_
      · skip
        go_wp2_with (go_at_call 25; (with_reducible refine (KC.out _).mono ?_); rintro _ U4 ⟨rfl, B⟩; replace BT := bon BT B; replace e1 := cell_below B e1; replace e2 := cell_below B e2; replace e3 := cell_below B e3; replace e4 := cell_below B e4; replace e5 := cell_below B e5; replace e6 := cell_below B e6; replace Ev4_0 := rangeAt_on Ev4_0 B; replace Ev4_1 := rangeAt_on Ev4_1 B; replace XR := XR.on (Nat.succ_pos _) B; clear B)
        refine ⟨Ahead.of BT, ?_⟩
        refine tree_one rfl ?_
        have mb0 := BT.size
        refine wpList_allocL zero_v4 ⟨Ahead.of (bon BT (box_below _ _ _)), ?_⟩
        have B := box_below U4 #[.int .i64 0, .int .i64 0, .int .i64 0, .int .i64 0] 27
        have XP := EBox.made U4 #[.int .i64 0, .int .i64 0, .int .i64 0, .int .i64 0] 27
        replace BT := bon BT B
        replace e1 := cell_below B e1
        replace e2 := cell_below B e2
        replace e3 := cell_below B e3
        replace e4 := cell_below B e4
        replace e5 := cell_below B e5
        replace e6 := cell_below B e6
        replace Ev4_0 := rangeAt_on Ev4_0 B
        replace Ev4_1 := rangeAt_on Ev4_1 B
        replace XR := XR.on (Nat.succ_pos _) B
        clear B
        generalize U4.alloc (.cells #[.int .i64 0, .int .i64 0, .int .i64 0, .int .i64 0] 27) = U5 at *
        generalize U4.heap.size = bp at *
        go_simp
        refine tree_one rfl ?_
        refine esetL (vs := [.int .i64 c0, .int .i64 c1, .int .i64 c2, .int .i64 c3]) rk_v4 rfl rfl XP rfl rfl (four_one _ _ _ _) ?_
        intro U6 Y B9 hc9 hf9
        have l0 := L0.out
        have LL : ∀ a : Addr, a.block < V2.heap.size → U6.cell? a = U5.cell? a := fun a h => hc9 a (by omega)
        replace e1 := (LL _ (by show w.heap.size < _; omega)).trans e1
        replace e2 := (LL _ (by show w.heap.size < _; omega)).trans e2
        replace e3 := (LL _ (by show w.heap.size < _; omega)).trans e3
        replace e4 := (LL _ (by show w.heap.size < _; omega)).trans e4
        replace e5 := (LL _ (by show w.heap.size < _; omega)).trans e5
        replace e6 := (LL _ (by show w.heap.size < _; omega)).trans e6
        replace Ev4_0 := (fun j v hv => (LL _ (by show w.heap.size + 1 < _; omega)).trans (Ev4_0 j v hv) : World.rangeAt U6 _ _ _)
        replace Ev4_1 := (fun j v hv => (LL _ (by show w.heap.size + 2 < _; omega)).trans (Ev4_1 j v hv) : World.rangeAt U6 _ _ _)
        replace BT := BT.trans (B9.mono mb0)
        replace XR := XR.keep (by omega) hc9 hf9
        replace XP := Y
        clear B9 hc9 hf9 LL l0 mb0
        refine ⟨Ahead.of BT, ?_⟩
        refine tree_nil ?_
        replace BB := bon BB BT
        clear BT
        go_wp2_with fail
        go_simp
        have k_e1 := cell_regrown e1
        have k_e2 := cell_regrown e2
        have k_e3 := cell_regrown e3
        have k_e4 := cell_regrown e4
        have k_e5 := cell_regrown e5
        have k_e6 := cell_regrown e6
        have L1 := Lib.hid (XR.lt (Nat.succ_pos _))
        have M1 := Lib.hid (XP.lt (Nat.succ_pos _))
        refine wp_region_tree (.read 0 (.read 1 (.read 2 (.read 3 (.read 4 (.read 5 (.read 6 (.read 8 (.read 9 (.read 10 (.read 11 (.read 12 (.fork2 7 (.fork2 13 (.fork2 14 (.fork1 15 (.fork1 16 .nil)) 15 (.fork1 14 (.fork1 16 .nil))) 15 (.fork1 13 (.fork1 14 (.fork1 16 .nil)))) 15 (.fork1 7 (.fork1 13 (.fork1 14 (.fork1 16 .nil))))))))))))))))) (by kernel_rfl) (by kernel_rfl) ?_
        intro U7 BT
        refine tree_read rfl ?_
        (first | ((try simp only [List.getElem_toArray, List.getElem_cons_succ, List.getElem_cons_zero]); go_big_quiet_want; refine quiet_eload _ _ rfl rk_v4 rfl (fun W hW => rangeAt_on Ev4_0 (below_regrown' hW)) rfl ?_; go_simp; go_big_quiet_on) | ((try simp only [List.getElem_toArray, List.getElem_cons_succ, List.getElem_cons_zero]); go_big_quiet_want; refine quiet_eload _ _ rfl rk_v4 rfl (fun W hW => rangeAt_on Ev4_1 (below_regrown' hW)) rfl ?_; go_simp; go_big_quiet_on) | go_big_quiet_step (fail) | quiet_step (fail))
        refine wpQuiet_nil ?_
        refine tree_read rfl ?_
        (first | ((try simp only [List.getElem_toArray, List.getElem_cons_succ, List.getElem_cons_zero]); go_big_quiet_want; refine quiet_eload _ _ rfl rk_v4 rfl (fun W hW => rangeAt_on Ev4_0 (below_regrown' hW)) rfl ?_; go_simp; go_big_quiet_on) | ((try simp only [List.getElem_toArray, List.getElem_cons_succ, List.getElem_cons_zero]); go_big_quiet_want; refine quiet_eload _ _ rfl rk_v4 rfl (fun W hW => rangeAt_on Ev4_1 (below_regrown' hW)) rfl ?_; go_simp; go_big_quiet_on) | go_big_quiet_step (fail) | quiet_step (fail))
        refine wpQuiet_nil ?_
        refine tree_read rfl ?_
        (first | ((try simp only [List.getElem_toArray, List.getElem_cons_succ, List.getElem_cons_zero]); go_big_quiet_want; refine quiet_eload _ _ rfl rk_v4 rfl (fun W hW => rangeAt_on Ev4_0 (below_regrown' hW)) rfl ?_; go_simp; go_big_quiet_on) | ((try simp only [List.getElem_toArray, List.getElem_cons_succ, List.getElem_cons_zero]); go_big_quiet_want; refine quiet_eload _ _ rfl rk_v4 rfl (fun W hW => rangeAt_on Ev4_1 (below_regrown' hW)) rfl ?_; go_simp; go_big_quiet_on) | go_big_quiet_step (fail) | quiet_step (fail))
        refine wpQuiet_nil ?_
        refine tree_read rfl ?_
        (first | ((try simp only [List.getElem_toArray, List.getElem_cons_succ, List.getElem_cons_zero]); go_big_quiet_want; refine quiet_eload _ _ rfl rk_v4 rfl (fun W hW => rangeAt_on Ev4_0 (below_regrown' hW)) rfl ?_; go_simp; go_big_quiet_on) | ((try simp only [List.getElem_toArray, List.getElem_cons_succ, List.getElem_cons_zero]); go_big_quiet_want; refine quiet_eload _ _ rfl rk_v4 rfl (fun W hW => rangeAt_on Ev4_1 (below_regrown' hW)) rfl ?_; go_simp; go_big_quiet_on) | go_big_quiet_step (fail) | quiet_step (fail))
        refine wpQuiet_nil ?_
        refine tree_read rfl ?_
        (first | ((try simp only [List.getElem_toArray, List.getElem_cons_succ, List.getElem_cons_zero]); go_big_quiet_want; refine quiet_eload _ _ rfl rk_v4 rfl (fun W hW => rangeAt_on Ev4_0 (below_regrown' hW)) rfl ?_; go_simp; go_big_quiet_on) | ((try simp only [List.getElem_toArray, List.getElem_cons_succ, List.getElem_cons_zero]); go_big_quiet_want; refine quiet_eload _ _ rfl rk_v4 rfl (fun W hW => rangeAt_on Ev4_1 (below_regrown' hW)) rfl ?_; go_simp; go_big_quiet_on) | go_big_quiet_step (fail) | quiet_step (fail))
        refine wpQuiet_nil ?_
        refine tree_read rfl ?_
        (first | ((try simp only [List.getElem_toArray, List.getElem_cons_succ, List.getElem_cons_zero]); go_big_quiet_want; refine quiet_eload _ _ rfl rk_v4 rfl (fun W hW => rangeAt_on Ev4_0 (below_regrown' hW)) rfl ?_; go_simp; go_big_quiet_on) | ((try simp only [List.getElem_toArray, List.getElem_cons_succ, List.getElem_cons_zero]); go_big_quiet_want; refine quiet_eload _ _ rfl rk_v4 rfl (fun W hW => rangeAt_on Ev4_1 (below_regrown' hW)) rfl ?_; go_simp; go_big_quiet_on) | go_big_quiet_step (fail) | quiet_step (fail))
        refine wpQuiet_nil ?_
        refine tree_read rfl ?_
        (first | ((try simp only [List.getElem_toArray, List.getElem_cons_succ, List.getElem_cons_zero]); go_big_quiet_want; refine quiet_eload _ _ rfl rk_v4 rfl (fun W hW => rangeAt_on Ev4_0 (below_regrown' hW)) rfl ?_; go_simp; go_big_quiet_on) | ((try simp only [List.getElem_toArray, List.getElem_cons_succ, List.getElem_cons_zero]); go_big_quiet_want; refine quiet_eload _ _ rfl rk_v4 rfl (fun W hW => rangeAt_on Ev4_1 (below_regrown' hW)) rfl ?_; go_simp; go_big_quiet_on) | go_big_quiet_step (fail) | quiet_step (fail))
        refine wpQuiet_nil ?_
        refine tree_read rfl ?_
        (first | ((try simp only [List.getElem_toArray, List.getElem_cons_succ, List.getElem_cons_zero]); go_big_quiet_want; refine quiet_eload _ _ rfl rk_v4 rfl (fun W hW => rangeAt_on Ev4_0 (below_regrown' hW)) rfl ?_; go_simp; go_big_quiet_on) | ((try simp only [List.getElem_toArray, List.getElem_cons_succ, List.getElem_cons_zero]); go_big_quiet_want; refine quiet_eload _ _ rfl rk_v4 rfl (fun W hW => rangeAt_on Ev4_1 (below_regrown' hW)) rfl ?_; go_simp; go_big_quiet_on) | go_big_quiet_step (fail) | quiet_step (fail))
        refine wpQuiet_nil ?_
        refine tree_read rfl ?_
        (first | ((try simp only [List.getElem_toArray, List.getElem_cons_succ, List.getElem_cons_zero]); go_big_quiet_want; refine quiet_eload _ _ rfl rk_v4 rfl (fun W hW => rangeAt_on Ev4_0 (below_regrown' hW)) rfl ?_; go_simp; go_big_quiet_on) | ((try simp only [List.getElem_toArray, List.getElem_cons_succ, List.getElem_cons_zero]); go_big_quiet_want; refine quiet_eload _ _ rfl rk_v4 rfl (fun W hW => rangeAt_on Ev4_1 (below_regrown' hW)) rfl ?_; go_simp; go_big_quiet_on) | go_big_quiet_step (fail) | quiet_step (fail))
        refine wpQuiet_nil ?_
        refine tree_read rfl ?_
        (first | ((try simp only [List.getElem_toArray, List.getElem_cons_succ, List.getElem_cons_zero]); go_big_quiet_want; refine quiet_eload _ _ rfl rk_v4 rfl (fun W hW => rangeAt_on Ev4_0 (below_regrown' hW)) rfl ?_; go_simp; go_big_quiet_on) | ((try simp only [List.getElem_toArray, List.getElem_cons_succ, List.getElem_cons_zero]); go_big_quiet_want; refine quiet_eload _ _ rfl rk_v4 rfl (fun W hW => rangeAt_on Ev4_1 (below_regrown' hW)) rfl ?_; go_simp; go_big_quiet_on) | go_big_quiet_step (fail) | quiet_step (fail))
        refine wpQuiet_nil ?_
        refine tree_read rfl ?_
        (first | ((try simp only [List.getElem_toArray, List.getElem_cons_succ, List.getElem_cons_zero]); go_big_quiet_want; refine quiet_eload _ _ rfl rk_v4 rfl (fun W hW => rangeAt_on Ev4_0 (below_regrown' hW)) rfl ?_; go_simp; go_big_quiet_on) | ((try simp only [List.getElem_toArray, List.getElem_cons_succ, List.getElem_cons_zero]); go_big_quiet_want; refine quiet_eload _ _ rfl rk_v4 rfl (fun W hW => rangeAt_on Ev4_1 (below_regrown' hW)) rfl ?_; go_simp; go_big_quiet_on) | go_big_quiet_step (fail) | quiet_step (fail))
        refine wpQuiet_nil ?_
        refine tree_read rfl ?_
        (first | ((try simp only [List.getElem_toArray, List.getElem_cons_succ, List.getElem_cons_zero]); go_big_quiet_want; refine quiet_eload _ _ rfl rk_v4 rfl (fun W hW => rangeAt_on Ev4_0 (below_regrown' hW)) rfl ?_; go_simp; go_big_quiet_on) | ((try simp only [List.getElem_toArray, List.getElem_cons_succ, List.getElem_cons_zero]); go_big_quiet_want; refine quiet_eload _ _ rfl rk_v4 rfl (fun W hW => rangeAt_on Ev4_1 (below_regrown' hW)) rfl ?_; go_simp; go_big_quiet_on) | go_big_quiet_step (fail) | quiet_step (fail))
        refine wpQuiet_nil ?_
        clear k_e1 k_e2 k_e3 k_e4 k_e5 k_e6
        replace e1 := cell_below BT e1
        replace e2 := cell_below BT e2
        replace e3 := cell_below BT e3
        replace e4 := cell_below BT e4
        replace e5 := cell_below BT e5
        replace e6 := cell_below BT e6
        replace Ev4_0 := rangeAt_on Ev4_0 BT
        replace Ev4_1 := rangeAt_on Ev4_1 BT
        replace XR := XR.on (Nat.succ_pos _) BT
        replace XP := XP.on (Nat.succ_pos _) BT
        refine tree_two rfl rfl ?_ ?_
        · skip
          go_wp2_with (go_at_call 8; (with_reducible refine (CA.out _).mono ?_); rintro _ U8 ⟨rfl, B⟩; replace BT := bon BT B; replace e1 := cell_below B e1; replace e2 := cell_below B e2; replace e3 := cell_below B e3; replace e4 := cell_below B e4; replace e5 := cell_below B e5; replace e6 := cell_below B e6; replace Ev4_0 := rangeAt_on Ev4_0 B; replace Ev4_1 := rangeAt_on Ev4_1 B; replace XR := XR.on (Nat.succ_pos _) B; replace XP := XP.on (Nat.succ_pos _) B; clear B)
          refine ⟨Ahead.of BT, ?_⟩
          refine tree_two rfl rfl ?_ ?_
          · skip
            go_wp2_with (go_at_call 8; (with_reducible refine (CB.out _).mono ?_); rintro _ U9 ⟨rfl, B⟩; replace BT := bon BT B; replace e1 := cell_below B e1; replace e2 := cell_below B e2; replace e3 := cell_below B e3; replace e4 := cell_below B e4; replace e5 := cell_below B e5; replace e6 := cell_below B e6; replace Ev4_0 := rangeAt_on Ev4_0 B; replace Ev4_1 := rangeAt_on Ev4_1 B; replace XR := XR.on (Nat.succ_pos _) B; replace XP := XP.on (Nat.succ_pos _) B; clear B)
            refine ⟨Ahead.of BT, ?_⟩
            refine tree_two rfl rfl ?_ ?_
            · skip
              go_wp2_with (go_at_call 25; (with_reducible refine (KD.out _).mono ?_); rintro _ U10 ⟨rfl, B⟩; replace BT := bon BT B; replace e1 := cell_below B e1; replace e2 := cell_below B e2; replace e3 := cell_below B e3; replace e4 := cell_below B e4; replace e5 := cell_below B e5; replace e6 := cell_below B e6; replace Ev4_0 := rangeAt_on Ev4_0 B; replace Ev4_1 := rangeAt_on Ev4_1 B; replace XR := XR.on (Nat.succ_pos _) B; replace XP := XP.on (Nat.succ_pos _) B; clear B)
              refine ⟨Ahead.of BT, ?_⟩
              refine tree_one rfl ?_
              have mb1 := BT.size
              refine wpList_allocL zero_v4 ⟨Ahead.of (bon BT (box_below _ _ _)), ?_⟩
              have B := box_below U10 #[.int .i64 0, .int .i64 0, .int .i64 0, .int .i64 0] 27
              have XQ := EBox.made U10 #[.int .i64 0, .int .i64 0, .int .i64 0, .int .i64 0] 27
              replace BT := bon BT B
              replace e1 := cell_below B e1
              replace e2 := cell_below B e2
              replace e3 := cell_below B e3
              replace e4 := cell_below B e4
              replace e5 := cell_below B e5
              replace e6 := cell_below B e6
              replace Ev4_0 := rangeAt_on Ev4_0 B
              replace Ev4_1 := rangeAt_on Ev4_1 B
              replace XR := XR.on (Nat.succ_pos _) B
              replace XP := XP.on (Nat.succ_pos _) B
              clear B
              generalize U10.alloc (.cells #[.int .i64 0, .int .i64 0, .int .i64 0, .int .i64 0] 27) = U11 at *
              generalize U10.heap.size = bq at *
              go_simp
              refine tree_one rfl ?_
              refine esetL (vs := [.int .i64 d0, .int .i64 d1, .int .i64 d2, .int .i64 d3]) rk_v4 rfl rfl XQ rfl rfl (four_one _ _ _ _) ?_
              intro U12 Y B9 hc9 hf9
              have l1 := L1.out
              have m1 := M1.out
              have LL : ∀ a : Addr, a.block < U6.heap.size → U12.cell? a = U11.cell? a := fun a h => hc9 a (by omega)
              replace e1 := (LL _ (by show w.heap.size < _; omega)).trans e1
              replace e2 := (LL _ (by show w.heap.size < _; omega)).trans e2
              replace e3 := (LL _ (by show w.heap.size < _; omega)).trans e3
              replace e4 := (LL _ (by show w.heap.size < _; omega)).trans e4
              replace e5 := (LL _ (by show w.heap.size < _; omega)).trans e5
              replace e6 := (LL _ (by show w.heap.size < _; omega)).trans e6
              replace Ev4_0 := (fun j v hv => (LL _ (by show w.heap.size + 1 < _; omega)).trans (Ev4_0 j v hv) : World.rangeAt U12 _ _ _)
              replace Ev4_1 := (fun j v hv => (LL _ (by show w.heap.size + 2 < _; omega)).trans (Ev4_1 j v hv) : World.rangeAt U12 _ _ _)
              replace BT := BT.trans (B9.mono mb1)
              replace XR := XR.keep (by omega) hc9 hf9
              replace XP := XP.keep (by omega) hc9 hf9
              replace XQ := Y
              clear B9 hc9 hf9 LL l1 mb1 m1
              refine ⟨Ahead.of BT, ?_⟩
              refine tree_nil ?_
              replace BB := bon BB BT
              clear BT
              have Ev4_2 := range_cut XP.1 0 4
              simp only [List.drop_zero, List.take_succ_cons, List.take_zero, Nat.zero_add] at Ev4_2
              have q3 := XQ.cell (i := 3) rfl
              clear XP XQ Ev4_0 Ev4_1 e1 e2 e3 e4 e5 e6
              go_wp2_with (first | ((with_reducible refine eload4L rk_v4 Ev4_2 ?_ ?_); focus rfl) | (go_at_call 26; refine (with3 c0 c1 c2 c3 d3 _).mono ?_; rintro _ _ ⟨rfl, B⟩; replace BB := bon BB B; replace XR := XR.on (Nat.succ_pos _) B; clear B) | (refine esetL (vs := [.int .i64 c0, .int .i64 c1, .int .i64 c2, .int .i64 d3]) rk_v4 rfl rfl XR rfl rfl (four_one _ _ _ _) ?_; intro V1 X1 B1 hc hf; clear hc hf; have r0 := X1.cell (i := 0) rfl; have r1 := X1.cell (i := 1) rfl; have r2 := X1.cell (i := 2) rfl; have r3 := X1.cell (i := 3) rfl))
              exact bodyPost_ret (v := .agg #[.int .i64 c0, .int .i64 c1, .int .i64 c2, .int .i64 d3]) (by simp [results, Try.results10, go_sem, r0, r1, r2, r3]) rfl ⟨rfl, BB.trans (B1.mono (by omega))⟩
            · skip
              have mb1 := BT.size
              refine wpList_allocL zero_v4 ⟨Ahead.of (bon BT (box_below _ _ _)), ?_⟩
              have B := box_below U9 #[.int .i64 0, .int .i64 0, .int .i64 0, .int .i64 0] 27
              have XQ := EBox.made U9 #[.int .i64 0, .int .i64 0, .int .i64 0, .int .i64 0] 27
              replace BT := bon BT B
              replace e1 := cell_below B e1
              replace e2 := cell_below B e2
              replace e3 := cell_below B e3
              replace e4 := cell_below B e4
              replace e5 := cell_below B e5
              replace e6 := cell_below B e6
              replace Ev4_0 := rangeAt_on Ev4_0 B
              replace Ev4_1 := rangeAt_on Ev4_1 B
              replace XR := XR.on (Nat.succ_pos _) B
              replace XP := XP.on (Nat.succ_pos _) B
              clear B
              generalize U9.alloc (.cells #[.int .i64 0, .int .i64 0, .int .i64 0, .int .i64 0] 27) = U13 at *
              generalize U9.heap.size = bq at *
              go_simp
              refine tree_one rfl ?_
              go_wp2_with (go_at_call 25; (with_reducible refine (KD.out _).mono ?_); rintro _ U14 ⟨rfl, B⟩; replace BT := bon BT B; replace e1 := cell_below B e1; replace e2 := cell_below B e2; replace e3 := cell_below B e3; replace e4 := cell_below B e4; replace e5 := cell_below B e5; replace e6 := cell_below B e6; replace Ev4_0 := rangeAt_on Ev4_0 B; replace Ev4_1 := rangeAt_on Ev4_1 B; replace XR := XR.on (Nat.succ_pos _) B; replace XP := XP.on (Nat.succ_pos _) B; replace XQ := XQ.on (Nat.succ_pos _) B; clear B)
              refine ⟨Ahead.of BT, ?_⟩
              refine tree_one rfl ?_
              refine esetL (vs := [.int .i64 d0, .int .i64 d1, .int .i64 d2, .int .i64 d3]) rk_v4 rfl rfl XQ rfl rfl (four_one _ _ _ _) ?_
              intro U15 Y B9 hc9 hf9
              have l1 := L1.out
              have m1 := M1.out
              have LL : ∀ a : Addr, a.block < U6.heap.size → U15.cell? a = U14.cell? a := fun a h => hc9 a (by omega)
              replace e1 := (LL _ (by show w.heap.size < _; omega)).trans e1
              replace e2 := (LL _ (by show w.heap.size < _; omega)).trans e2
              replace e3 := (LL _ (by show w.heap.size < _; omega)).trans e3
              replace e4 := (LL _ (by show w.heap.size < _; omega)).trans e4
              replace e5 := (LL _ (by show w.heap.size < _; omega)).trans e5
              replace e6 := (LL _ (by show w.heap.size < _; omega)).trans e6
              replace Ev4_0 := (fun j v hv => (LL _ (by show w.heap.size + 1 < _; omega)).trans (Ev4_0 j v hv) : World.rangeAt U15 _ _ _)
              replace Ev4_1 := (fun j v hv => (LL _ (by show w.heap.size + 2 < _; omega)).trans (Ev4_1 j v hv) : World.rangeAt U15 _ _ _)
              replace BT := BT.trans (B9.mono mb1)
              replace XR := XR.keep (by omega) hc9 hf9
              replace XP := XP.keep (by omega) hc9 hf9
              replace XQ := Y
              clear B9 hc9 hf9 LL l1 mb1 m1
              refine ⟨Ahead.of BT, ?_⟩
              refine tree_nil ?_
              replace BB := bon BB BT
              clear BT
              have Ev4_2 := range_cut XP.1 0 4
              simp only [List.drop_zero, List.take_succ_cons, List.take_zero, Nat.zero_add] at Ev4_2
              have q3 := XQ.cell (i := 3) rfl
              clear XP XQ Ev4_0 Ev4_1 e1 e2 e3 e4 e5 e6
              go_wp2_with (first | ((with_reducible refine eload4L rk_v4 Ev4_2 ?_ ?_); focus rfl) | (go_at_call 26; refine (with3 c0 c1 c2 c3 d3 _).mono ?_; rintro _ _ ⟨rfl, B⟩; replace BB := bon BB B; replace XR := XR.on (Nat.succ_pos _) B; clear B) | (refine esetL (vs := [.int .i64 c0, .int .i64 c1, .int .i64 c2, .int .i64 d3]) rk_v4 rfl rfl XR rfl rfl (four_one _ _ _ _) ?_; intro V1 X1 B1 hc hf; clear hc hf; have r0 := X1.cell (i := 0) rfl; have r1 := X1.cell (i := 1) rfl; have r2 := X1.cell (i := 2) rfl; have r3 := X1.cell (i := 3) rfl))
              exact bodyPost_ret (v := .agg #[.int .i64 c0, .int .i64 c1, .int .i64 c2, .int .i64 d3]) (by simp [results, Try.results10, go_sem, r0, r1, r2, r3]) rfl ⟨rfl, BB.trans (B1.mono (by omega))⟩
          · skip
            have mb1 := BT.size
            refine wpList_allocL zero_v4 ⟨Ahead.of (bon BT (box_below _ _ _)), ?_⟩
            have B := box_below U8 #[.int .i64 0, .int .i64 0, .int .i64 0, .int .i64 0] 27
            have XQ := EBox.made U8 #[.int .i64 0, .int .i64 0, .int .i64 0, .int .i64 0] 27
            replace BT := bon BT B
            replace e1 := cell_below B e1
            replace e2 := cell_below B e2
            replace e3 := cell_below B e3
            replace e4 := cell_below B e4
            replace e5 := cell_below B e5
            replace e6 := cell_below B e6
            replace Ev4_0 := rangeAt_on Ev4_0 B
            replace Ev4_1 := rangeAt_on Ev4_1 B
            replace XR := XR.on (Nat.succ_pos _) B
            replace XP := XP.on (Nat.succ_pos _) B
            clear B
            generalize U8.alloc (.cells #[.int .i64 0, .int .i64 0, .int .i64 0, .int .i64 0] 27) = U16 at *
            generalize U8.heap.size = bq at *
            go_simp
            refine tree_one rfl ?_
            go_wp2_with (go_at_call 8; (with_reducible refine (CB.out _).mono ?_); rintro _ U17 ⟨rfl, B⟩; replace BT := bon BT B; replace e1 := cell_below B e1; replace e2 := cell_below B e2; replace e3 := cell_below B e3; replace e4 := cell_below B e4; replace e5 := cell_below B e5; replace e6 := cell_below B e6; replace Ev4_0 := rangeAt_on Ev4_0 B; replace Ev4_1 := rangeAt_on Ev4_1 B; replace XR := XR.on (Nat.succ_pos _) B; replace XP := XP.on (Nat.succ_pos _) B; replace XQ := XQ.on (Nat.succ_pos _) B; clear B)
            refine ⟨Ahead.of BT, ?_⟩
            refine tree_one rfl ?_
            go_wp2_with (go_at_call 25; (with_reducible refine (KD.out _).mono ?_); rintro _ U18 ⟨rfl, B⟩; replace BT := bon BT B; replace e1 := cell_below B e1; replace e2 := cell_below B e2; replace e3 := cell_below B e3; replace e4 := cell_below B e4; replace e5 := cell_below B e5; replace e6 := cell_below B e6; replace Ev4_0 := rangeAt_on Ev4_0 B; replace Ev4_1 := rangeAt_on Ev4_1 B; replace XR := XR.on (Nat.succ_pos _) B; replace XP := XP.on (Nat.succ_pos _) B; replace XQ := XQ.on (Nat.succ_pos _) B; clear B)
            refine ⟨Ahead.of BT, ?_⟩
            refine tree_one rfl ?_
            refine esetL (vs := [.int .i64 d0, .int .i64 d1, .int .i64 d2, .int .i64 d3]) rk_v4 rfl rfl XQ rfl rfl (four_one _ _ _ _) ?_
            intro U19 Y B9 hc9 hf9
            have l1 := L1.out
            have m1 := M1.out
            have LL : ∀ a : Addr, a.block < U6.heap.size → U19.cell? a = U18.cell? a := fun a h => hc9 a (by omega)
            replace e1 := (LL _ (by show w.heap.size < _; omega)).trans e1
            replace e2 := (LL _ (by show w.heap.size < _; omega)).trans e2
            replace e3 := (LL _ (by show w.heap.size < _; omega)).trans e3
            replace e4 := (LL _ (by show w.heap.size < _; omega)).trans e4
            replace e5 := (LL _ (by show w.heap.size < _; omega)).trans e5
            replace e6 := (LL _ (by show w.heap.size < _; omega)).trans e6
            replace Ev4_0 := (fun j v hv => (LL _ (by show w.heap.size + 1 < _; omega)).trans (Ev4_0 j v hv) : World.rangeAt U19 _ _ _)
            replace Ev4_1 := (fun j v hv => (LL _ (by show w.heap.size + 2 < _; omega)).trans (Ev4_1 j v hv) : World.rangeAt U19 _ _ _)
            replace BT := BT.trans (B9.mono mb1)
            replace XR := XR.keep (by omega) hc9 hf9
            replace XP := XP.keep (by omega) hc9 hf9
            replace XQ := Y
            clear B9 hc9 hf9 LL l1 mb1 m1
            refine ⟨Ahead.of BT, ?_⟩
            refine tree_nil ?_
            replace BB := bon BB BT
            clear BT
            have Ev4_2 := range_cut XP.1 0 4
            simp only [List.drop_zero, List.take_succ_cons, List.take_zero, Nat.zero_add] at Ev4_2
            have q3 := XQ.cell (i := 3) rfl
            clear XP XQ Ev4_0 Ev4_1 e1 e2 e3 e4 e5 e6
            go_wp2_with (first | ((with_reducible refine eload4L rk_v4 Ev4_2 ?_ ?_); focus rfl) | (go_at_call 26; refine (with3 c0 c1 c2 c3 d3 _).mono ?_; rintro _ _ ⟨rfl, B⟩; replace BB := bon BB B; replace XR := XR.on (Nat.succ_pos _) B; clear B) | (refine esetL (vs := [.int .i64 c0, .int .i64 c1, .int .i64 c2, .int .i64 d3]) rk_v4 rfl rfl XR rfl rfl (four_one _ _ _ _) ?_; intro V1 X1 B1 hc hf; clear hc hf; have r0 := X1.cell (i := 0) rfl; have r1 := X1.cell (i := 1) rfl; have r2 := X1.cell (i := 2) rfl; have r3 := X1.cell (i := 3) rfl))
            exact bodyPost_ret (v := .agg #[.int .i64 c0, .int .i64 c1, .int .i64 c2, .int .i64 d3]) (by simp [results, Try.results10, go_sem, r0, r1, r2, r3]) rfl ⟨rfl, BB.trans (B1.mono (by omega))⟩
        · skip
          have mb1 := BT.size
          refine wpList_allocL zero_v4 ⟨Ahead.of (bon BT (box_below _ _ _)), ?_⟩
          have B := box_below U7 #[.int .i64 0, .int .i64 0, .int .i64 0, .int .i64 0] 27
          have XQ := EBox.made U7 #[.int .i64 0, .int .i64 0, .int .i64 0, .int .i64 0] 27
          replace BT := bon BT B
          replace e1 := cell_below B e1
          replace e2 := cell_below B e2
          replace e3 := cell_below B e3
          replace e4 := cell_below B e4
          replace e5 := cell_below B e5
          replace e6 := cell_below B e6
          replace Ev4_0 := rangeAt_on Ev4_0 B
          replace Ev4_1 := rangeAt_on Ev4_1 B
          replace XR := XR.on (Nat.succ_pos _) B
          replace XP := XP.on (Nat.succ_pos _) B
          clear B
          generalize U7.alloc (.cells #[.int .i64 0, .int .i64 0, .int .i64 0, .int .i64 0] 27) = U20 at *
          generalize U7.heap.size = bq at *
          go_simp
          refine tree_one rfl ?_
          go_wp2_with (go_at_call 8; (with_reducible refine (CA.out _).mono ?_); rintro _ U21 ⟨rfl, B⟩; replace BT := bon BT B; replace e1 := cell_below B e1; replace e2 := cell_below B e2; replace e3 := cell_below B e3; replace e4 := cell_below B e4; replace e5 := cell_below B e5; replace e6 := cell_below B e6; replace Ev4_0 := rangeAt_on Ev4_0 B; replace Ev4_1 := rangeAt_on Ev4_1 B; replace XR := XR.on (Nat.succ_pos _) B; replace XP := XP.on (Nat.succ_pos _) B; replace XQ := XQ.on (Nat.succ_pos _) B; clear B)
          refine ⟨Ahead.of BT, ?_⟩
          refine tree_one rfl ?_
          go_wp2_with (go_at_call 8; (with_reducible refine (CB.out _).mono ?_); rintro _ U22 ⟨rfl, B⟩; replace BT := bon BT B; replace e1 := cell_below B e1; replace e2 := cell_below B e2; replace e3 := cell_below B e3; replace e4 := cell_below B e4; replace e5 := cell_below B e5; replace e6 := cell_below B e6; replace Ev4_0 := rangeAt_on Ev4_0 B; replace Ev4_1 := rangeAt_on Ev4_1 B; replace XR := XR.on (Nat.succ_pos _) B; replace XP := XP.on (Nat.succ_pos _) B; replace XQ := XQ.on (Nat.succ_pos _) B; clear B)
          refine ⟨Ahead.of BT, ?_⟩
          refine tree_one rfl ?_
          go_wp2_with (go_at_call 25; (with_reducible refine (KD.out _).mono ?_); rintro _ U23 ⟨rfl, B⟩; replace BT := bon BT B; replace e1 := cell_below B e1; replace e2 := cell_below B e2; replace e3 := cell_below B e3; replace e4 := cell_below B e4; replace e5 := cell_below B e5; replace e6 := cell_below B e6; replace Ev4_0 := rangeAt_on Ev4_0 B; replace Ev4_1 := rangeAt_on Ev4_1 B; replace XR := XR.on (Nat.succ_pos _) B; replace XP := XP.on (Nat.succ_pos _) B; replace XQ := XQ.on (Nat.succ_pos _) B; clear B)
          refine ⟨Ahead.of BT, ?_⟩
          refine tree_one rfl ?_
          refine esetL (vs := [.int .i64 d0, .int .i64 d1, .int .i64 d2, .int .i64 d3]) rk_v4 rfl rfl XQ rfl rfl (four_one _ _ _ _) ?_
          intro U24 Y B9 hc9 hf9
          have l1 := L1.out
          have m1 := M1.out
          have LL : ∀ a : Addr, a.block < U6.heap.size → U24.cell? a = U23.cell? a := fun a h => hc9 a (by omega)
          replace e1 := (LL _ (by show w.heap.size < _; omega)).trans e1
          replace e2 := (LL _ (by show w.heap.size < _; omega)).trans e2
          replace e3 := (LL _ (by show w.heap.size < _; omega)).trans e3
          replace e4 := (LL _ (by show w.heap.size < _; omega)).trans e4
          replace e5 := (LL _ (by show w.heap.size < _; omega)).trans e5
          replace e6 := (LL _ (by show w.heap.size < _; omega)).trans e6
          replace Ev4_0 := (fun j v hv => (LL _ (by show w.heap.size + 1 < _; omega)).trans (Ev4_0 j v hv) : World.rangeAt U24 _ _ _)
          replace Ev4_1 := (fun j v hv => (LL _ (by show w.heap.size + 2 < _; omega)).trans (Ev4_1 j v hv) : World.rangeAt U24 _ _ _)
          replace BT := BT.trans (B9.mono mb1)
          replace XR := XR.keep (by omega) hc9 hf9
          replace XP := XP.keep (by omega) hc9 hf9
          replace XQ := Y
          clear B9 hc9 hf9 LL l1 mb1 m1
          refine ⟨Ahead.of BT, ?_⟩
          refine tree_nil ?_
          replace BB := bon BB BT
          clear BT
          have Ev4_2 := range_cut XP.1 0 4
          simp only [List.drop_zero, List.take_succ_cons, List.take_zero, Nat.zero_add] at Ev4_2
          have q3 := XQ.cell (i := 3) rfl
          clear XP XQ Ev4_0 Ev4_1 e1 e2 e3 e4 e5 e6
          go_wp2_with (first | ((with_reducible refine eload4L rk_v4 Ev4_2 ?_ ?_); focus rfl) | (go_at_call 26; refine (with3 c0 c1 c2 c3 d3 _).mono ?_; rintro _ _ ⟨rfl, B⟩; replace BB := bon BB B; replace XR := XR.on (Nat.succ_pos _) B; clear B) | (refine esetL (vs := [.int .i64 c0, .int .i64 c1, .int .i64 c2, .int .i64 d3]) rk_v4 rfl rfl XR rfl rfl (four_one _ _ _ _) ?_; intro V1 X1 B1 hc hf; clear hc hf; have r0 := X1.cell (i := 0) rfl; have r1 := X1.cell (i := 1) rfl; have r2 := X1.cell (i := 2) rfl; have r3 := X1.cell (i := 3) rfl))
          exact bodyPost_ret (v := .agg #[.int .i64 c0, .int .i64 c1, .int .i64 c2, .int .i64 d3]) (by simp [results, Try.results10, go_sem, r0, r1, r2, r3]) rfl ⟨rfl, BB.trans (B1.mono (by omega))⟩
      · skip
        have mb0 := BT.size
        refine wpList_allocL zero_v4 ⟨Ahead.of (bon BT (box_below _ _ _)), ?_⟩
        have B := box_below U3 #[.int .i64 0, .int .i64 0, .int .i64 0, .int .i64 0] 27
        have XP := EBox.made U3 #[.int .i64 0, .int .i64 0, .int .i64 0, .int .i64 0] 27
        replace BT := bon BT B
        replace e1 := cell_below B e1
        replace e2 := cell_below B e2
        replace e3 := cell_below B e3
        replace e4 := cell_below B e4
        replace e5 := cell_below B e5
        replace e6 := cell_below B e6
        replace Ev4_0 := rangeAt_on Ev4_0 B
        replace Ev4_1 := rangeAt_on Ev4_1 B
        replace XR := XR.on (Nat.succ_pos _) B
        clear B
        generalize U3.alloc (.cells #[.int .i64 0, .int .i64 0, .int .i64 0, .int .i64 0] 27) = U25 at *
        generalize U3.heap.size = bp at *
        go_simp
        refine tree_one rfl ?_
        go_wp2_with (go_at_call 25; (with_reducible refine (KC.out _).mono ?_); rintro _ U26 ⟨rfl, B⟩; replace BT := bon BT B; replace e1 := cell_below B e1; replace e2 := cell_below B e2; replace e3 := cell_below B e3; replace e4 := cell_below B e4; replace e5 := cell_below B e5; replace e6 := cell_below B e6; replace Ev4_0 := rangeAt_on Ev4_0 B; replace Ev4_1 := rangeAt_on Ev4_1 B; replace XR := XR.on (Nat.succ_pos _) B; replace XP := XP.on (Nat.succ_pos _) B; clear B)
        refine ⟨Ahead.of BT, ?_⟩
        refine tree_one rfl ?_
        refine esetL (vs := [.int .i64 c0, .int .i64 c1, .int .i64 c2, .int .i64 c3]) rk_v4 rfl rfl XP rfl rfl (four_one _ _ _ _) ?_
        intro U27 Y B9 hc9 hf9
        have l0 := L0.out
        have LL : ∀ a : Addr, a.block < V2.heap.size → U27.cell? a = U26.cell? a := fun a h => hc9 a (by omega)
        replace e1 := (LL _ (by show w.heap.size < _; omega)).trans e1
        replace e2 := (LL _ (by show w.heap.size < _; omega)).trans e2
        replace e3 := (LL _ (by show w.heap.size < _; omega)).trans e3
        replace e4 := (LL _ (by show w.heap.size < _; omega)).trans e4
        replace e5 := (LL _ (by show w.heap.size < _; omega)).trans e5
        replace e6 := (LL _ (by show w.heap.size < _; omega)).trans e6
        replace Ev4_0 := (fun j v hv => (LL _ (by show w.heap.size + 1 < _; omega)).trans (Ev4_0 j v hv) : World.rangeAt U27 _ _ _)
        replace Ev4_1 := (fun j v hv => (LL _ (by show w.heap.size + 2 < _; omega)).trans (Ev4_1 j v hv) : World.rangeAt U27 _ _ _)
        replace BT := BT.trans (B9.mono mb0)
        replace XR := XR.keep (by omega) hc9 hf9
        replace XP := Y
        clear B9 hc9 hf9 LL l0 mb0
        refine ⟨Ahead.of BT, ?_⟩
        refine tree_nil ?_
        replace BB := bon BB BT
        clear BT
        go_wp2_with fail
        go_simp
        have k_e1 := cell_regrown e1
        have k_e2 := cell_regrown e2
        have k_e3 := cell_regrown e3
        have k_e4 := cell_regrown e4
        have k_e5 := cell_regrown e5
        have k_e6 := cell_regrown e6
        have L1 := Lib.hid (XR.lt (Nat.succ_pos _))
        have M1 := Lib.hid (XP.lt (Nat.succ_pos _))
        refine wp_region_tree (.read 0 (.read 1 (.read 2 (.read 3 (.read 4 (.read 5 (.read 6 (.read 8 (.read 9 (.read 10 (.read 11 (.read 12 (.fork2 7 (.fork2 13 (.fork2 14 (.fork1 15 (.fork1 16 .nil)) 15 (.fork1 14 (.fork1 16 .nil))) 15 (.fork1 13 (.fork1 14 (.fork1 16 .nil)))) 15 (.fork1 7 (.fork1 13 (.fork1 14 (.fork1 16 .nil))))))))))))))))) (by kernel_rfl) (by kernel_rfl) ?_
        intro U28 BT
        refine tree_read rfl ?_
        (first | ((try simp only [List.getElem_toArray, List.getElem_cons_succ, List.getElem_cons_zero]); go_big_quiet_want; refine quiet_eload _ _ rfl rk_v4 rfl (fun W hW => rangeAt_on Ev4_0 (below_regrown' hW)) rfl ?_; go_simp; go_big_quiet_on) | ((try simp only [List.getElem_toArray, List.getElem_cons_succ, List.getElem_cons_zero]); go_big_quiet_want; refine quiet_eload _ _ rfl rk_v4 rfl (fun W hW => rangeAt_on Ev4_1 (below_regrown' hW)) rfl ?_; go_simp; go_big_quiet_on) | go_big_quiet_step (fail) | quiet_step (fail))
        refine wpQuiet_nil ?_
        refine tree_read rfl ?_
        (first | ((try simp only [List.getElem_toArray, List.getElem_cons_succ, List.getElem_cons_zero]); go_big_quiet_want; refine quiet_eload _ _ rfl rk_v4 rfl (fun W hW => rangeAt_on Ev4_0 (below_regrown' hW)) rfl ?_; go_simp; go_big_quiet_on) | ((try simp only [List.getElem_toArray, List.getElem_cons_succ, List.getElem_cons_zero]); go_big_quiet_want; refine quiet_eload _ _ rfl rk_v4 rfl (fun W hW => rangeAt_on Ev4_1 (below_regrown' hW)) rfl ?_; go_simp; go_big_quiet_on) | go_big_quiet_step (fail) | quiet_step (fail))
        refine wpQuiet_nil ?_
        refine tree_read rfl ?_
        (first | ((try simp only [List.getElem_toArray, List.getElem_cons_succ, List.getElem_cons_zero]); go_big_quiet_want; refine quiet_eload _ _ rfl rk_v4 rfl (fun W hW => rangeAt_on Ev4_0 (below_regrown' hW)) rfl ?_; go_simp; go_big_quiet_on) | ((try simp only [List.getElem_toArray, List.getElem_cons_succ, List.getElem_cons_zero]); go_big_quiet_want; refine quiet_eload _ _ rfl rk_v4 rfl (fun W hW => rangeAt_on Ev4_1 (below_regrown' hW)) rfl ?_; go_simp; go_big_quiet_on) | go_big_quiet_step (fail) | quiet_step (fail))
        refine wpQuiet_nil ?_
        refine tree_read rfl ?_
        (first | ((try simp only [List.getElem_toArray, List.getElem_cons_succ, List.getElem_cons_zero]); go_big_quiet_want; refine quiet_eload _ _ rfl rk_v4 rfl (fun W hW => rangeAt_on Ev4_0 (below_regrown' hW)) rfl ?_; go_simp; go_big_quiet_on) | ((try simp only [List.getElem_toArray, List.getElem_cons_succ, List.getElem_cons_zero]); go_big_quiet_want; refine quiet_eload _ _ rfl rk_v4 rfl (fun W hW => rangeAt_on Ev4_1 (below_regrown' hW)) rfl ?_; go_simp; go_big_quiet_on) | go_big_quiet_step (fail) | quiet_step (fail))
        refine wpQuiet_nil ?_
        refine tree_read rfl ?_
        (first | ((try simp only [List.getElem_toArray, List.getElem_cons_succ, List.getElem_cons_zero]); go_big_quiet_want; refine quiet_eload _ _ rfl rk_v4 rfl (fun W hW => rangeAt_on Ev4_0 (below_regrown' hW)) rfl ?_; go_simp; go_big_quiet_on) | ((try simp only [List.getElem_toArray, List.getElem_cons_succ, List.getElem_cons_zero]); go_big_quiet_want; refine quiet_eload _ _ rfl rk_v4 rfl (fun W hW => rangeAt_on Ev4_1 (below_regrown' hW)) rfl ?_; go_simp; go_big_quiet_on) | go_big_quiet_step (fail) | quiet_step (fail))
        refine wpQuiet_nil ?_
        refine tree_read rfl ?_
        (first | ((try simp only [List.getElem_toArray, List.getElem_cons_succ, List.getElem_cons_zero]); go_big_quiet_want; refine quiet_eload _ _ rfl rk_v4 rfl (fun W hW => rangeAt_on Ev4_0 (below_regrown' hW)) rfl ?_; go_simp; go_big_quiet_on) | ((try simp only [List.getElem_toArray, List.getElem_cons_succ, List.getElem_cons_zero]); go_big_quiet_want; refine quiet_eload _ _ rfl rk_v4 rfl (fun W hW => rangeAt_on Ev4_1 (below_regrown' hW)) rfl ?_; go_simp; go_big_quiet_on) | go_big_quiet_step (fail) | quiet_step (fail))
        refine wpQuiet_nil ?_
        refine tree_read rfl ?_
        (first | ((try simp only [List.getElem_toArray, List.getElem_cons_succ, List.getElem_cons_zero]); go_big_quiet_want; refine quiet_eload _ _ rfl rk_v4 rfl (fun W hW => rangeAt_on Ev4_0 (below_regrown' hW)) rfl ?_; go_simp; go_big_quiet_on) | ((try simp only [List.getElem_toArray, List.getElem_cons_succ, List.getElem_cons_zero]); go_big_quiet_want; refine quiet_eload _ _ rfl rk_v4 rfl (fun W hW => rangeAt_on Ev4_1 (below_regrown' hW)) rfl ?_; go_simp; go_big_quiet_on) | go_big_quiet_step (fail) | quiet_step (fail))
        refine wpQuiet_nil ?_
        refine tree_read rfl ?_
        (first | ((try simp only [List.getElem_toArray, List.getElem_cons_succ, List.getElem_cons_zero]); go_big_quiet_want; refine quiet_eload _ _ rfl rk_v4 rfl (fun W hW => rangeAt_on Ev4_0 (below_regrown' hW)) rfl ?_; go_simp; go_big_quiet_on) | ((try simp only [List.getElem_toArray, List.getElem_cons_succ, List.getElem_cons_zero]); go_big_quiet_want; refine quiet_eload _ _ rfl rk_v4 rfl (fun W hW => rangeAt_on Ev4_1 (below_regrown' hW)) rfl ?_; go_simp; go_big_quiet_on) | go_big_quiet_step (fail) | quiet_step (fail))
        refine wpQuiet_nil ?_
        refine tree_read rfl ?_
        (first | ((try simp only [List.getElem_toArray, List.getElem_cons_succ, List.getElem_cons_zero]); go_big_quiet_want; refine quiet_eload _ _ rfl rk_v4 rfl (fun W hW => rangeAt_on Ev4_0 (below_regrown' hW)) rfl ?_; go_simp; go_big_quiet_on) | ((try simp only [List.getElem_toArray, List.getElem_cons_succ, List.getElem_cons_zero]); go_big_quiet_want; refine quiet_eload _ _ rfl rk_v4 rfl (fun W hW => rangeAt_on Ev4_1 (below_regrown' hW)) rfl ?_; go_simp; go_big_quiet_on) | go_big_quiet_step (fail) | quiet_step (fail))
        refine wpQuiet_nil ?_
        refine tree_read rfl ?_
        (first | ((try simp only [List.getElem_toArray, List.getElem_cons_succ, List.getElem_cons_zero]); go_big_quiet_want; refine quiet_eload _ _ rfl rk_v4 rfl (fun W hW => rangeAt_on Ev4_0 (below_regrown' hW)) rfl ?_; go_simp; go_big_quiet_on) | ((try simp only [List.getElem_toArray, List.getElem_cons_succ, List.getElem_cons_zero]); go_big_quiet_want; refine quiet_eload _ _ rfl rk_v4 rfl (fun W hW => rangeAt_on Ev4_1 (below_regrown' hW)) rfl ?_; go_simp; go_big_quiet_on) | go_big_quiet_step (fail) | quiet_step (fail))
        refine wpQuiet_nil ?_
        refine tree_read rfl ?_
        (first | ((try simp only [List.getElem_toArray, List.getElem_cons_succ, List.getElem_cons_zero]); go_big_quiet_want; refine quiet_eload _ _ rfl rk_v4 rfl (fun W hW => rangeAt_on Ev4_0 (below_regrown' hW)) rfl ?_; go_simp; go_big_quiet_on) | ((try simp only [List.getElem_toArray, List.getElem_cons_succ, List.getElem_cons_zero]); go_big_quiet_want; refine quiet_eload _ _ rfl rk_v4 rfl (fun W hW => rangeAt_on Ev4_1 (below_regrown' hW)) rfl ?_; go_simp; go_big_quiet_on) | go_big_quiet_step (fail) | quiet_step (fail))
        refine wpQuiet_nil ?_
        refine tree_read rfl ?_
        (first | ((try simp only [List.getElem_toArray, List.getElem_cons_succ, List.getElem_cons_zero]); go_big_quiet_want; refine quiet_eload _ _ rfl rk_v4 rfl (fun W hW => rangeAt_on Ev4_0 (below_regrown' hW)) rfl ?_; go_simp; go_big_quiet_on) | ((try simp only [List.getElem_toArray, List.getElem_cons_succ, List.getElem_cons_zero]); go_big_quiet_want; refine quiet_eload _ _ rfl rk_v4 rfl (fun W hW => rangeAt_on Ev4_1 (below_regrown' hW)) rfl ?_; go_simp; go_big_quiet_on) | go_big_quiet_step (fail) | quiet_step (fail))
        refine wpQuiet_nil ?_
        clear k_e1 k_e2 k_e3 k_e4 k_e5 k_e6
        replace e1 := cell_below BT e1
        replace e2 := cell_below BT e2
        replace e3 := cell_below BT e3
        replace e4 := cell_below BT e4
        replace e5 := cell_below BT e5
        replace e6 := cell_below BT e6
        replace Ev4_0 := rangeAt_on Ev4_0 BT
        replace Ev4_1 := rangeAt_on Ev4_1 BT
        replace XR := XR.on (Nat.succ_pos _) BT
        replace XP := XP.on (Nat.succ_pos _) BT
        refine tree_two rfl rfl ?_ ?_
        · skip
          go_wp2_with (go_at_call 8; (with_reducible refine (CA.out _).mono ?_); rintro _ U29 ⟨rfl, B⟩; replace BT := bon BT B; replace e1 := cell_below B e1; replace e2 := cell_below B e2; replace e3 := cell_below B e3; replace e4 := cell_below B e4; replace e5 := cell_below B e5; replace e6 := cell_below B e6; replace Ev4_0 := rangeAt_on Ev4_0 B; replace Ev4_1 := rangeAt_on Ev4_1 B; replace XR := XR.on (Nat.succ_pos _) B; replace XP := XP.on (Nat.succ_pos _) B; clear B)
          refine ⟨Ahead.of BT, ?_⟩
          refine tree_two rfl rfl ?_ ?_
          · skip
            go_wp2_with (go_at_call 8; (with_reducible refine (CB.out _).mono ?_); rintro _ U30 ⟨rfl, B⟩; replace BT := bon BT B; replace e1 := cell_below B e1; replace e2 := cell_below B e2; replace e3 := cell_below B e3; replace e4 := cell_below B e4; replace e5 := cell_below B e5; replace e6 := cell_below B e6; replace Ev4_0 := rangeAt_on Ev4_0 B; replace Ev4_1 := rangeAt_on Ev4_1 B; replace XR := XR.on (Nat.succ_pos _) B; replace XP := XP.on (Nat.succ_pos _) B; clear B)
            refine ⟨Ahead.of BT, ?_⟩
            refine tree_two rfl rfl ?_ ?_
            · skip
              go_wp2_with (go_at_call 25; (with_reducible refine (KD.out _).mono ?_); rintro _ U31 ⟨rfl, B⟩; replace BT := bon BT B; replace e1 := cell_below B e1; replace e2 := cell_below B e2; replace e3 := cell_below B e3; replace e4 := cell_below B e4; replace e5 := cell_below B e5; replace e6 := cell_below B e6; replace Ev4_0 := rangeAt_on Ev4_0 B; replace Ev4_1 := rangeAt_on Ev4_1 B; replace XR := XR.on (Nat.succ_pos _) B; replace XP := XP.on (Nat.succ_pos _) B; clear B)
              refine ⟨Ahead.of BT, ?_⟩
              refine tree_one rfl ?_
              have mb1 := BT.size
              refine wpList_allocL zero_v4 ⟨Ahead.of (bon BT (box_below _ _ _)), ?_⟩
              have B := box_below U31 #[.int .i64 0, .int .i64 0, .int .i64 0, .int .i64 0] 27
              have XQ := EBox.made U31 #[.int .i64 0, .int .i64 0, .int .i64 0, .int .i64 0] 27
              replace BT := bon BT B
              replace e1 := cell_below B e1
              replace e2 := cell_below B e2
              replace e3 := cell_below B e3
              replace e4 := cell_below B e4
              replace e5 := cell_below B e5
              replace e6 := cell_below B e6
              replace Ev4_0 := rangeAt_on Ev4_0 B
              replace Ev4_1 := rangeAt_on Ev4_1 B
              replace XR := XR.on (Nat.succ_pos _) B
              replace XP := XP.on (Nat.succ_pos _) B
              clear B
              generalize U31.alloc (.cells #[.int .i64 0, .int .i64 0, .int .i64 0, .int .i64 0] 27) = U32 at *
              generalize U31.heap.size = bq at *
              go_simp
              refine tree_one rfl ?_
              refine esetL (vs := [.int .i64 d0, .int .i64 d1, .int .i64 d2, .int .i64 d3]) rk_v4 rfl rfl XQ rfl rfl (four_one _ _ _ _) ?_
              intro U33 Y B9 hc9 hf9
              have l1 := L1.out
              have m1 := M1.out
              have LL : ∀ a : Addr, a.block < U27.heap.size → U33.cell? a = U32.cell? a := fun a h => hc9 a (by omega)
              replace e1 := (LL _ (by show w.heap.size < _; omega)).trans e1
              replace e2 := (LL _ (by show w.heap.size < _; omega)).trans e2
              replace e3 := (LL _ (by show w.heap.size < _; omega)).trans e3
              replace e4 := (LL _ (by show w.heap.size < _; omega)).trans e4
              replace e5 := (LL _ (by show w.heap.size < _; omega)).trans e5
              replace e6 := (LL _ (by show w.heap.size < _; omega)).trans e6
              replace Ev4_0 := (fun j v hv => (LL _ (by show w.heap.size + 1 < _; omega)).trans (Ev4_0 j v hv) : World.rangeAt U33 _ _ _)
              replace Ev4_1 := (fun j v hv => (LL _ (by show w.heap.size + 2 < _; omega)).trans (Ev4_1 j v hv) : World.rangeAt U33 _ _ _)
              replace BT := BT.trans (B9.mono mb1)
              replace XR := XR.keep (by omega) hc9 hf9
              replace XP := XP.keep (by omega) hc9 hf9
              replace XQ := Y
              clear B9 hc9 hf9 LL l1 mb1 m1
              refine ⟨Ahead.of BT, ?_⟩
              refine tree_nil ?_
              replace BB := bon BB BT
              clear BT
              have Ev4_2 := range_cut XP.1 0 4
              simp only [List.drop_zero, List.take_succ_cons, List.take_zero, Nat.zero_add] at Ev4_2
              have q3 := XQ.cell (i := 3) rfl
              clear XP XQ Ev4_0 Ev4_1 e1 e2 e3 e4 e5 e6
              go_wp2_with (first | ((with_reducible refine eload4L rk_v4 Ev4_2 ?_ ?_); focus rfl) | (go_at_call 26; refine (with3 c0 c1 c2 c3 d3 _).mono ?_; rintro _ _ ⟨rfl, B⟩; replace BB := bon BB B; replace XR := XR.on (Nat.succ_pos _) B; clear B) | (refine esetL (vs := [.int .i64 c0, .int .i64 c1, .int .i64 c2, .int .i64 d3]) rk_v4 rfl rfl XR rfl rfl (four_one _ _ _ _) ?_; intro V1 X1 B1 hc hf; clear hc hf; have r0 := X1.cell (i := 0) rfl; have r1 := X1.cell (i := 1) rfl; have r2 := X1.cell (i := 2) rfl; have r3 := X1.cell (i := 3) rfl))
              exact bodyPost_ret (v := .agg #[.int .i64 c0, .int .i64 c1, .int .i64 c2, .int .i64 d3]) (by simp [results, Try.results10, go_sem, r0, r1, r2, r3]) rfl ⟨rfl, BB.trans (B1.mono (by omega))⟩
            · skip
              have mb1 := BT.size
              refine wpList_allocL zero_v4 ⟨Ahead.of (bon BT (box_below _ _ _)), ?_⟩
              have B := box_below U30 #[.int .i64 0, .int .i64 0, .int .i64 0, .int .i64 0] 27
              have XQ := EBox.made U30 #[.int .i64 0, .int .i64 0, .int .i64 0, .int .i64 0] 27
              replace BT := bon BT B
              replace e1 := cell_below B e1
              replace e2 := cell_below B e2
              replace e3 := cell_below B e3
              replace e4 := cell_below B e4
              replace e5 := cell_below B e5
              replace e6 := cell_below B e6
              replace Ev4_0 := rangeAt_on Ev4_0 B
              replace Ev4_1 := rangeAt_on Ev4_1 B
              replace XR := XR.on (Nat.succ_pos _) B
              replace XP := XP.on (Nat.succ_pos _) B
              clear B
              generalize U30.alloc (.cells #[.int .i64 0, .int .i64 0, .int .i64 0, .int .i64 0] 27) = U34 at *
              generalize U30.heap.size = bq at *
              go_simp
              refine tree_one rfl ?_
              go_wp2_with (go_at_call 25; (with_reducible refine (KD.out _).mono ?_); rintro _ U35 ⟨rfl, B⟩; replace BT := bon BT B; replace e1 := cell_below B e1; replace e2 := cell_below B e2; replace e3 := cell_below B e3; replace e4 := cell_below B e4; replace e5 := cell_below B e5; replace e6 := cell_below B e6; replace Ev4_0 := rangeAt_on Ev4_0 B; replace Ev4_1 := rangeAt_on Ev4_1 B; replace XR := XR.on (Nat.succ_pos _) B; replace XP := XP.on (Nat.succ_pos _) B; replace XQ := XQ.on (Nat.succ_pos _) B; clear B)
              refine ⟨Ahead.of BT, ?_⟩
              refine tree_one rfl ?_
              refine esetL (vs := [.int .i64 d0, .int .i64 d1, .int .i64 d2, .int .i64 d3]) rk_v4 rfl rfl XQ rfl rfl (four_one _ _ _ _) ?_
              intro U36 Y B9 hc9 hf9
              have l1 := L1.out
              have m1 := M1.out
              have LL : ∀ a : Addr, a.block < U27.heap.size → U36.cell? a = U35.cell? a := fun a h => hc9 a (by omega)
              replace e1 := (LL _ (by show w.heap.size < _; omega)).trans e1
              replace e2 := (LL _ (by show w.heap.size < _; omega)).trans e2
              replace e3 := (LL _ (by show w.heap.size < _; omega)).trans e3
              replace e4 := (LL _ (by show w.heap.size < _; omega)).trans e4
              replace e5 := (LL _ (by show w.heap.size < _; omega)).trans e5
              replace e6 := (LL _ (by show w.heap.size < _; omega)).trans e6
              replace Ev4_0 := (fun j v hv => (LL _ (by show w.heap.size + 1 < _; omega)).trans (Ev4_0 j v hv) : World.rangeAt U36 _ _ _)
              replace Ev4_1 := (fun j v hv => (LL _ (by show w.heap.size + 2 < _; omega)).trans (Ev4_1 j v hv) : World.rangeAt U36 _ _ _)
              replace BT := BT.trans (B9.mono mb1)
              replace XR := XR.keep (by omega) hc9 hf9
              replace XP := XP.keep (by omega) hc9 hf9
              replace XQ := Y
              clear B9 hc9 hf9 LL l1 mb1 m1
              refine ⟨Ahead.of BT, ?_⟩
              refine tree_nil ?_
              replace BB := bon BB BT
              clear BT
              have Ev4_2 := range_cut XP.1 0 4
              simp only [List.drop_zero, List.take_succ_cons, List.take_zero, Nat.zero_add] at Ev4_2
              have q3 := XQ.cell (i := 3) rfl
              clear XP XQ Ev4_0 Ev4_1 e1 e2 e3 e4 e5 e6
              go_wp2_with (first | ((with_reducible refine eload4L rk_v4 Ev4_2 ?_ ?_); focus rfl) | (go_at_call 26; refine (with3 c0 c1 c2 c3 d3 _).mono ?_; rintro _ _ ⟨rfl, B⟩; replace BB := bon BB B; replace XR := XR.on (Nat.succ_pos _) B; clear B) | (refine esetL (vs := [.int .i64 c0, .int .i64 c1, .int .i64 c2, .int .i64 d3]) rk_v4 rfl rfl XR rfl rfl (four_one _ _ _ _) ?_; intro V1 X1 B1 hc hf; clear hc hf; have r0 := X1.cell (i := 0) rfl; have r1 := X1.cell (i := 1) rfl; have r2 := X1.cell (i := 2) rfl; have r3 := X1.cell (i := 3) rfl))
              exact bodyPost_ret (v := .agg #[.int .i64 c0, .int .i64 c1, .int .i64 c2, .int .i64 d3]) (by simp [results, Try.results10, go_sem, r0, r1, r2, r3]) rfl ⟨rfl, BB.trans (B1.mono (by omega))⟩
          · skip
            have mb1 := BT.size
            refine wpList_allocL zero_v4 ⟨Ahead.of (bon BT (box_below _ _ _)), ?_⟩
            have B := box_below U29 #[.int .i64 0, .int .i64 0, .int .i64 0, .int .i64 0] 27
            have XQ := EBox.made U29 #[.int .i64 0, .int .i64 0, .int .i64 0, .int .i64 0] 27
            replace BT := bon BT B
            replace e1 := cell_below B e1
            replace e2 := cell_below B e2
            replace e3 := cell_below B e3
            replace e4 := cell_below B e4
            replace e5 := cell_below B e5
            replace e6 := cell_below B e6
            replace Ev4_0 := rangeAt_on Ev4_0 B
            replace Ev4_1 := rangeAt_on Ev4_1 B
            replace XR := XR.on (Nat.succ_pos _) B
            replace XP := XP.on (Nat.succ_pos _) B
            clear B
            generalize U29.alloc (.cells #[.int .i64 0, .int .i64 0, .int .i64 0, .int .i64 0] 27) = U37 at *
            generalize U29.heap.size = bq at *
            go_simp
            refine tree_one rfl ?_
            go_wp2_with (go_at_call 8; (with_reducible refine (CB.out _).mono ?_); rintro _ U38 ⟨rfl, B⟩; replace BT := bon BT B; replace e1 := cell_below B e1; replace e2 := cell_below B e2; replace e3 := cell_below B e3; replace e4 := cell_below B e4; replace e5 := cell_below B e5; replace e6 := cell_below B e6; replace Ev4_0 := rangeAt_on Ev4_0 B; replace Ev4_1 := rangeAt_on Ev4_1 B; replace XR := XR.on (Nat.succ_pos _) B; replace XP := XP.on (Nat.succ_pos _) B; replace XQ := XQ.on (Nat.succ_pos _) B; clear B)
            refine ⟨Ahead.of BT, ?_⟩
            refine tree_one rfl ?_
            go_wp2_with (go_at_call 25; (with_reducible refine (KD.out _).mono ?_); rintro _ U39 ⟨rfl, B⟩; replace BT := bon BT B; replace e1 := cell_below B e1; replace e2 := cell_below B e2; replace e3 := cell_below B e3; replace e4 := cell_below B e4; replace e5 := cell_below B e5; replace e6 := cell_below B e6; replace Ev4_0 := rangeAt_on Ev4_0 B; replace Ev4_1 := rangeAt_on Ev4_1 B; replace XR := XR.on (Nat.succ_pos _) B; replace XP := XP.on (Nat.succ_pos _) B; replace XQ := XQ.on (Nat.succ_pos _) B; clear B)
            refine ⟨Ahead.of BT, ?_⟩
            refine tree_one rfl ?_
            refine esetL (vs := [.int .i64 d0, .int .i64 d1, .int .i64 d2, .int .i64 d3]) rk_v4 rfl rfl XQ rfl rfl (four_one _ _ _ _) ?_
            intro U40 Y B9 hc9 hf9
            have l1 := L1.out
            have m1 := M1.out
            have LL : ∀ a : Addr, a.block < U27.heap.size → U40.cell? a = U39.cell? a := fun a h => hc9 a (by omega)
            replace e1 := (LL _ (by show w.heap.size < _; omega)).trans e1
            replace e2 := (LL _ (by show w.heap.size < _; omega)).trans e2
            replace e3 := (LL _ (by show w.heap.size < _; omega)).trans e3
            replace e4 := (LL _ (by show w.heap.size < _; omega)).trans e4
            replace e5 := (LL _ (by show w.heap.size < _; omega)).trans e5
            replace e6 := (LL _ (by show w.heap.size < _; omega)).trans e6
            replace Ev4_0 := (fun j v hv => (LL _ (by show w.heap.size + 1 < _; omega)).trans (Ev4_0 j v hv) : World.rangeAt U40 _ _ _)
            replace Ev4_1 := (fun j v hv => (LL _ (by show w.heap.size + 2 < _; omega)).trans (Ev4_1 j v hv) : World.rangeAt U40 _ _ _)
            replace BT := BT.trans (B9.mono mb1)
            replace XR := XR.keep (by omega) hc9 hf9
            replace XP := XP.keep (by omega) hc9 hf9
            replace XQ := Y
            clear B9 hc9 hf9 LL l1 mb1 m1
            refine ⟨Ahead.of BT, ?_⟩
            refine tree_nil ?_
            replace BB := bon BB BT
            clear BT
            have Ev4_2 := range_cut XP.1 0 4
            simp only [List.drop_zero, List.take_succ_cons, List.take_zero, Nat.zero_add] at Ev4_2
            have q3 := XQ.cell (i := 3) rfl
            clear XP XQ Ev4_0 Ev4_1 e1 e2 e3 e4 e5 e6
            go_wp2_with (first | ((with_reducible refine eload4L rk_v4 Ev4_2 ?_ ?_); focus rfl) | (go_at_call 26; refine (with3 c0 c1 c2 c3 d3 _).mono ?_; rintro _ _ ⟨rfl, B⟩; replace BB := bon BB B; replace XR := XR.on (Nat.succ_pos _) B; clear B) | (refine esetL (vs := [.int .i64 c0, .int .i64 c1, .int .i64 c2, .int .i64 d3]) rk_v4 rfl rfl XR rfl rfl (four_one _ _ _ _) ?_; intro V1 X1 B1 hc hf; clear hc hf; have r0 := X1.cell (i := 0) rfl; have r1 := X1.cell (i := 1) rfl; have r2 := X1.cell (i := 2) rfl; have r3 := X1.cell (i := 3) rfl))
            exact bodyPost_ret (v := .agg #[.int .i64 c0, .int .i64 c1, .int .i64 c2, .int .i64 d3]) (by simp [results, Try.results10, go_sem, r0, r1, r2, r3]) rfl ⟨rfl, BB.trans (B1.mono (by omega))⟩
        · skip
          have mb1 := BT.size
          refine wpList_allocL zero_v4 ⟨Ahead.of (bon BT (box_below _ _ _)), ?_⟩
          have B := box_below U28 #[.int .i64 0, .int .i64 0, .int .i64 0, .int .i64 0] 27
          have XQ := EBox.made U28 #[.int .i64 0, .int .i64 0, .int .i64 0, .int .i64 0] 27
          replace BT := bon BT B
          replace e1 := cell_below B e1
          replace e2 := cell_below B e2
          replace e3 := cell_below B e3
          replace e4 := cell_below B e4
          replace e5 := cell_below B e5
          replace e6 := cell_below B e6
          replace Ev4_0 := rangeAt_on Ev4_0 B
          replace Ev4_1 := rangeAt_on Ev4_1 B
          replace XR := XR.on (Nat.succ_pos _) B
          replace XP := XP.on (Nat.succ_pos _) B
          clear B
          generalize U28.alloc (.cells #[.int .i64 0, .int .i64 0, .int .i64 0, .int .i64 0] 27) = U41 at *
          generalize U28.heap.size = bq at *
          go_simp
          refine tree_one rfl ?_
          go_wp2_with (go_at_call 8; (with_reducible refine (CA.out _).mono ?_); rintro _ U42 ⟨rfl, B⟩; replace BT := bon BT B; replace e1 := cell_below B e1; replace e2 := cell_below B e2; replace e3 := cell_below B e3; replace e4 := cell_below B e4; replace e5 := cell_below B e5; replace e6 := cell_below B e6; replace Ev4_0 := rangeAt_on Ev4_0 B; replace Ev4_1 := rangeAt_on Ev4_1 B; replace XR := XR.on (Nat.succ_pos _) B; replace XP := XP.on (Nat.succ_pos _) B; replace XQ := XQ.on (Nat.succ_pos _) B; clear B)
          refine ⟨Ahead.of BT, ?_⟩
          refine tree_one rfl ?_
          go_wp2_with (go_at_call 8; (with_reducible refine (CB.out _).mono ?_); rintro _ U43 ⟨rfl, B⟩; replace BT := bon BT B; replace e1 := cell_below B e1; replace e2 := cell_below B e2; replace e3 := cell_below B e3; replace e4 := cell_below B e4; replace e5 := cell_below B e5; replace e6 := cell_below B e6; replace Ev4_0 := rangeAt_on Ev4_0 B; replace Ev4_1 := rangeAt_on Ev4_1 B; replace XR := XR.on (Nat.succ_pos _) B; replace XP := XP.on (Nat.succ_pos _) B; replace XQ := XQ.on (Nat.succ_pos _) B; clear B)
          refine ⟨Ahead.of BT, ?_⟩
          refine tree_one rfl ?_
          go_wp2_with (go_at_call 25; (with_reducible refine (KD.out _).mono ?_); rintro _ U44 ⟨rfl, B⟩; replace BT := bon BT B; replace e1 := cell_below B e1; replace e2 := cell_below B e2; replace e3 := cell_below B e3; replace e4 := cell_below B e4; replace e5 := cell_below B e5; replace e6 := cell_below B e6; replace Ev4_0 := rangeAt_on Ev4_0 B; replace Ev4_1 := rangeAt_on Ev4_1 B; replace XR := XR.on (Nat.succ_pos _) B; replace XP := XP.on (Nat.succ_pos _) B; replace XQ := XQ.on (Nat.succ_pos _) B; clear B)
          refine ⟨Ahead.of BT, ?_⟩
          refine tree_one rfl ?_
          refine esetL (vs := [.int .i64 d0, .int .i64 d1, .int .i64 d2, .int .i64 d3]) rk_v4 rfl rfl XQ rfl rfl (four_one _ _ _ _) ?_
          intro U45 Y B9 hc9 hf9
          have l1 := L1.out
          have m1 := M1.out
          have LL : ∀ a : Addr, a.block < U27.heap.size → U45.cell? a = U44.cell? a := fun a h => hc9 a (by omega)
          replace e1 := (LL _ (by show w.heap.size < _; omega)).trans e1
          replace e2 := (LL _ (by show w.heap.size < _; omega)).trans e2
          replace e3 := (LL _ (by show w.heap.size < _; omega)).trans e3
          replace e4 := (LL _ (by show w.heap.size < _; omega)).trans e4
          replace e5 := (LL _ (by show w.heap.size < _; omega)).trans e5
          replace e6 := (LL _ (by show w.heap.size < _; omega)).trans e6
          replace Ev4_0 := (fun j v hv => (LL _ (by show w.heap.size + 1 < _; omega)).trans (Ev4_0 j v hv) : World.rangeAt U45 _ _ _)
          replace Ev4_1 := (fun j v hv => (LL _ (by show w.heap.size + 2 < _; omega)).trans (Ev4_1 j v hv) : World.rangeAt U45 _ _ _)
          replace BT := BT.trans (B9.mono mb1)
          replace XR := XR.keep (by omega) hc9 hf9
          replace XP := XP.keep (by omega) hc9 hf9
          replace XQ := Y
          clear B9 hc9 hf9 LL l1 mb1 m1
          refine ⟨Ahead.of BT, ?_⟩
          refine tree_nil ?_
          replace BB := bon BB BT
          clear BT
          have Ev4_2 := range_cut XP.1 0 4
          simp only [List.drop_zero, List.take_succ_cons, List.take_zero, Nat.zero_add] at Ev4_2
          have q3 := XQ.cell (i := 3) rfl
          clear XP XQ Ev4_0 Ev4_1 e1 e2 e3 e4 e5 e6
          go_wp2_with (first | ((with_reducible refine eload4L rk_v4 Ev4_2 ?_ ?_); focus rfl) | (go_at_call 26; refine (with3 c0 c1 c2 c3 d3 _).mono ?_; rintro _ _ ⟨rfl, B⟩; replace BB := bon BB B; replace XR := XR.on (Nat.succ_pos _) B; clear B) | (refine esetL (vs := [.int .i64 c0, .int .i64 c1, .int .i64 c2, .int .i64 d3]) rk_v4 rfl rfl XR rfl rfl (four_one _ _ _ _) ?_; intro V1 X1 B1 hc hf; clear hc hf; have r0 := X1.cell (i := 0) rfl; have r1 := X1.cell (i := 1) rfl; have r2 := X1.cell (i := 2) rfl; have r3 := X1.cell (i := 3) rfl))
          exact bodyPost_ret (v := .agg #[.int .i64 c0, .int .i64 c1, .int .i64 c2, .int .i64 d3]) (by simp [results, Try.results10, go_sem, r0, r1, r2, r3]) rfl ⟨rfl, BB.trans (B1.mono (by omega))⟩
    · skip
      have mb0 := BT.size
      refine wpList_allocL zero_v4 ⟨Ahead.of (bon BT (box_below _ _ _)), ?_⟩
      have B := box_below U2 #[.int .i64 0, .int .i64 0, .int .i64 0, .int .i64 0] 27
      have XP := EBox.made U2 #[.int .i64 0, .int .i64 0, .int .i64 0, .int .i64 0] 27
      replace BT := bon BT B
      replace e1 := cell_below B e1
      replace e2 := cell_below B e2
      replace e3 := cell_below B e3
      replace e4 := cell_below B e4
      replace e5 := cell_below B e5
      replace e6 := cell_below B e6
      replace Ev4_0 := rangeAt_on Ev4_0 B
      replace Ev4_1 := rangeAt_on Ev4_1 B
      replace XR := XR.on (Nat.succ_pos _) B
      clear B
      generalize U2.alloc (.cells #[.int .i64 0, .int .i64 0, .int .i64 0, .int .i64 0] 27) = U46 at *
      generalize U2.heap.size = bp at *
      go_simp
      refine tree_one rfl ?_
      go_wp2_with (go_at_call 8; (with_reducible refine (CG.out _).mono ?_); rintro _ U47 ⟨rfl, B⟩; replace BT := bon BT B; replace e1 := cell_below B e1; replace e2 := cell_below B e2; replace e3 := cell_below B e3; replace e4 := cell_below B e4; replace e5 := cell_below B e5; replace e6 := cell_below B e6; replace Ev4_0 := rangeAt_on Ev4_0 B; replace Ev4_1 := rangeAt_on Ev4_1 B; replace XR := XR.on (Nat.succ_pos _) B; replace XP := XP.on (Nat.succ_pos _) B; clear B)
      refine ⟨Ahead.of BT, ?_⟩
      refine tree_one rfl ?_
      go_wp2_with (go_at_call 25; (with_reducible refine (KC.out _).mono ?_); rintro _ U48 ⟨rfl, B⟩; replace BT := bon BT B; replace e1 := cell_below B e1; replace e2 := cell_below B e2; replace e3 := cell_below B e3; replace e4 := cell_below B e4; replace e5 := cell_below B e5; replace e6 := cell_below B e6; replace Ev4_0 := rangeAt_on Ev4_0 B; replace Ev4_1 := rangeAt_on Ev4_1 B; replace XR := XR.on (Nat.succ_pos _) B; replace XP := XP.on (Nat.succ_pos _) B; clear B)
      refine ⟨Ahead.of BT, ?_⟩
      refine tree_one rfl ?_
      refine esetL (vs := [.int .i64 c0, .int .i64 c1, .int .i64 c2, .int .i64 c3]) rk_v4 rfl rfl XP rfl rfl (four_one _ _ _ _) ?_
      intro U49 Y B9 hc9 hf9
      have l0 := L0.out
      have LL : ∀ a : Addr, a.block < V2.heap.size → U49.cell? a = U48.cell? a := fun a h => hc9 a (by omega)
      replace e1 := (LL _ (by show w.heap.size < _; omega)).trans e1
      replace e2 := (LL _ (by show w.heap.size < _; omega)).trans e2
      replace e3 := (LL _ (by show w.heap.size < _; omega)).trans e3
      replace e4 := (LL _ (by show w.heap.size < _; omega)).trans e4
      replace e5 := (LL _ (by show w.heap.size < _; omega)).trans e5
      replace e6 := (LL _ (by show w.heap.size < _; omega)).trans e6
      replace Ev4_0 := (fun j v hv => (LL _ (by show w.heap.size + 1 < _; omega)).trans (Ev4_0 j v hv) : World.rangeAt U49 _ _ _)
      replace Ev4_1 := (fun j v hv => (LL _ (by show w.heap.size + 2 < _; omega)).trans (Ev4_1 j v hv) : World.rangeAt U49 _ _ _)
      replace BT := BT.trans (B9.mono mb0)
      replace XR := XR.keep (by omega) hc9 hf9
      replace XP := Y
      clear B9 hc9 hf9 LL l0 mb0
      refine ⟨Ahead.of BT, ?_⟩
      refine tree_nil ?_
      replace BB := bon BB BT
      clear BT
      go_wp2_with fail
      go_simp
      have k_e1 := cell_regrown e1
      have k_e2 := cell_regrown e2
      have k_e3 := cell_regrown e3
      have k_e4 := cell_regrown e4
      have k_e5 := cell_regrown e5
      have k_e6 := cell_regrown e6
      have L1 := Lib.hid (XR.lt (Nat.succ_pos _))
      have M1 := Lib.hid (XP.lt (Nat.succ_pos _))
      refine wp_region_tree (.read 0 (.read 1 (.read 2 (.read 3 (.read 4 (.read 5 (.read 6 (.read 8 (.read 9 (.read 10 (.read 11 (.read 12 (.fork2 7 (.fork2 13 (.fork2 14 (.fork1 15 (.fork1 16 .nil)) 15 (.fork1 14 (.fork1 16 .nil))) 15 (.fork1 13 (.fork1 14 (.fork1 16 .nil)))) 15 (.fork1 7 (.fork1 13 (.fork1 14 (.fork1 16 .nil))))))))))))))))) (by kernel_rfl) (by kernel_rfl) ?_
      intro U50 BT
      refine tree_read rfl ?_
      (first | ((try simp only [List.getElem_toArray, List.getElem_cons_succ, List.getElem_cons_zero]); go_big_quiet_want; refine quiet_eload _ _ rfl rk_v4 rfl (fun W hW => rangeAt_on Ev4_0 (below_regrown' hW)) rfl ?_; go_simp; go_big_quiet_on) | ((try simp only [List.getElem_toArray, List.getElem_cons_succ, List.getElem_cons_zero]); go_big_quiet_want; refine quiet_eload _ _ rfl rk_v4 rfl (fun W hW => rangeAt_on Ev4_1 (below_regrown' hW)) rfl ?_; go_simp; go_big_quiet_on) | go_big_quiet_step (fail) | quiet_step (fail))
      refine wpQuiet_nil ?_
      refine tree_read rfl ?_
      (first | ((try simp only [List.getElem_toArray, List.getElem_cons_succ, List.getElem_cons_zero]); go_big_quiet_want; refine quiet_eload _ _ rfl rk_v4 rfl (fun W hW => rangeAt_on Ev4_0 (below_regrown' hW)) rfl ?_; go_simp; go_big_quiet_on) | ((try simp only [List.getElem_toArray, List.getElem_cons_succ, List.getElem_cons_zero]); go_big_quiet_want; refine quiet_eload _ _ rfl rk_v4 rfl (fun W hW => rangeAt_on Ev4_1 (below_regrown' hW)) rfl ?_; go_simp; go_big_quiet_on) | go_big_quiet_step (fail) | quiet_step (fail))
      refine wpQuiet_nil ?_
      refine tree_read rfl ?_
      (first | ((try simp only [List.getElem_toArray, List.getElem_cons_succ, List.getElem_cons_zero]); go_big_quiet_want; refine quiet_eload _ _ rfl rk_v4 rfl (fun W hW => rangeAt_on Ev4_0 (below_regrown' hW)) rfl ?_; go_simp; go_big_quiet_on) | ((try simp only [List.getElem_toArray, List.getElem_cons_succ, List.getElem_cons_zero]); go_big_quiet_want; refine quiet_eload _ _ rfl rk_v4 rfl (fun W hW => rangeAt_on Ev4_1 (below_regrown' hW)) rfl ?_; go_simp; go_big_quiet_on) | go_big_quiet_step (fail) | quiet_step (fail))
      refine wpQuiet_nil ?_
      refine tree_read rfl ?_
      (first | ((try simp only [List.getElem_toArray, List.getElem_cons_succ, List.getElem_cons_zero]); go_big_quiet_want; refine quiet_eload _ _ rfl rk_v4 rfl (fun W hW => rangeAt_on Ev4_0 (below_regrown' hW)) rfl ?_; go_simp; go_big_quiet_on) | ((try simp only [List.getElem_toArray, List.getElem_cons_succ, List.getElem_cons_zero]); go_big_quiet_want; refine quiet_eload _ _ rfl rk_v4 rfl (fun W hW => rangeAt_on Ev4_1 (below_regrown' hW)) rfl ?_; go_simp; go_big_quiet_on) | go_big_quiet_step (fail) | quiet_step (fail))
      refine wpQuiet_nil ?_
      refine tree_read rfl ?_
      (first | ((try simp only [List.getElem_toArray, List.getElem_cons_succ, List.getElem_cons_zero]); go_big_quiet_want; refine quiet_eload _ _ rfl rk_v4 rfl (fun W hW => rangeAt_on Ev4_0 (below_regrown' hW)) rfl ?_; go_simp; go_big_quiet_on) | ((try simp only [List.getElem_toArray, List.getElem_cons_succ, List.getElem_cons_zero]); go_big_quiet_want; refine quiet_eload _ _ rfl rk_v4 rfl (fun W hW => rangeAt_on Ev4_1 (below_regrown' hW)) rfl ?_; go_simp; go_big_quiet_on) | go_big_quiet_step (fail) | quiet_step (fail))
      refine wpQuiet_nil ?_
      refine tree_read rfl ?_
      (first | ((try simp only [List.getElem_toArray, List.getElem_cons_succ, List.getElem_cons_zero]); go_big_quiet_want; refine quiet_eload _ _ rfl rk_v4 rfl (fun W hW => rangeAt_on Ev4_0 (below_regrown' hW)) rfl ?_; go_simp; go_big_quiet_on) | ((try simp only [List.getElem_toArray, List.getElem_cons_succ, List.getElem_cons_zero]); go_big_quiet_want; refine quiet_eload _ _ rfl rk_v4 rfl (fun W hW => rangeAt_on Ev4_1 (below_regrown' hW)) rfl ?_; go_simp; go_big_quiet_on) | go_big_quiet_step (fail) | quiet_step (fail))
      refine wpQuiet_nil ?_
      refine tree_read rfl ?_
      (first | ((try simp only [List.getElem_toArray, List.getElem_cons_succ, List.getElem_cons_zero]); go_big_quiet_want; refine quiet_eload _ _ rfl rk_v4 rfl (fun W hW => rangeAt_on Ev4_0 (below_regrown' hW)) rfl ?_; go_simp; go_big_quiet_on) | ((try simp only [List.getElem_toArray, List.getElem_cons_succ, List.getElem_cons_zero]); go_big_quiet_want; refine quiet_eload _ _ rfl rk_v4 rfl (fun W hW => rangeAt_on Ev4_1 (below_regrown' hW)) rfl ?_; go_simp; go_big_quiet_on) | go_big_quiet_step (fail) | quiet_step (fail))
      refine wpQuiet_nil ?_
      refine tree_read rfl ?_
      (first | ((try simp only [List.getElem_toArray, List.getElem_cons_succ, List.getElem_cons_zero]); go_big_quiet_want; refine quiet_eload _ _ rfl rk_v4 rfl (fun W hW => rangeAt_on Ev4_0 (below_regrown' hW)) rfl ?_; go_simp; go_big_quiet_on) | ((try simp only [List.getElem_toArray, List.getElem_cons_succ, List.getElem_cons_zero]); go_big_quiet_want; refine quiet_eload _ _ rfl rk_v4 rfl (fun W hW => rangeAt_on Ev4_1 (below_regrown' hW)) rfl ?_; go_simp; go_big_quiet_on) | go_big_quiet_step (fail) | quiet_step (fail))
      refine wpQuiet_nil ?_
      refine tree_read rfl ?_
      (first | ((try simp only [List.getElem_toArray, List.getElem_cons_succ, List.getElem_cons_zero]); go_big_quiet_want; refine quiet_eload _ _ rfl rk_v4 rfl (fun W hW => rangeAt_on Ev4_0 (below_regrown' hW)) rfl ?_; go_simp; go_big_quiet_on) | ((try simp only [List.getElem_toArray, List.getElem_cons_succ, List.getElem_cons_zero]); go_big_quiet_want; refine quiet_eload _ _ rfl rk_v4 rfl (fun W hW => rangeAt_on Ev4_1 (below_regrown' hW)) rfl ?_; go_simp; go_big_quiet_on) | go_big_quiet_step (fail) | quiet_step (fail))
      refine wpQuiet_nil ?_
      refine tree_read rfl ?_
      (first | ((try simp only [List.getElem_toArray, List.getElem_cons_succ, List.getElem_cons_zero]); go_big_quiet_want; refine quiet_eload _ _ rfl rk_v4 rfl (fun W hW => rangeAt_on Ev4_0 (below_regrown' hW)) rfl ?_; go_simp; go_big_quiet_on) | ((try simp only [List.getElem_toArray, List.getElem_cons_succ, List.getElem_cons_zero]); go_big_quiet_want; refine quiet_eload _ _ rfl rk_v4 rfl (fun W hW => rangeAt_on Ev4_1 (below_regrown' hW)) rfl ?_; go_simp; go_big_quiet_on) | go_big_quiet_step (fail) | quiet_step (fail))
      refine wpQuiet_nil ?_
      refine tree_read rfl ?_
      (first | ((try simp only [List.getElem_toArray, List.getElem_cons_succ, List.getElem_cons_zero]); go_big_quiet_want; refine quiet_eload _ _ rfl rk_v4 rfl (fun W hW => rangeAt_on Ev4_0 (below_regrown' hW)) rfl ?_; go_simp; go_big_quiet_on) | ((try simp only [List.getElem_toArray, List.getElem_cons_succ, List.getElem_cons_zero]); go_big_quiet_want; refine quiet_eload _ _ rfl rk_v4 rfl (fun W hW => rangeAt_on Ev4_1 (below_regrown' hW)) rfl ?_; go_simp; go_big_quiet_on) | go_big_quiet_step (fail) | quiet_step (fail))
      refine wpQuiet_nil ?_
      refine tree_read rfl ?_
      (first | ((try simp only [List.getElem_toArray, List.getElem_cons_succ, List.getElem_cons_zero]); go_big_quiet_want; refine quiet_eload _ _ rfl rk_v4 rfl (fun W hW => rangeAt_on Ev4_0 (below_regrown' hW)) rfl ?_; go_simp; go_big_quiet_on) | ((try simp only [List.getElem_toArray, List.getElem_cons_succ, List.getElem_cons_zero]); go_big_quiet_want; refine quiet_eload _ _ rfl rk_v4 rfl (fun W hW => rangeAt_on Ev4_1 (below_regrown' hW)) rfl ?_; go_simp; go_big_quiet_on) | go_big_quiet_step (fail) | quiet_step (fail))
      refine wpQuiet_nil ?_
      clear k_e1 k_e2 k_e3 k_e4 k_e5 k_e6
      replace e1 := cell_below BT e1
      replace e2 := cell_below BT e2
      replace e3 := cell_below BT e3
      replace e4 := cell_below BT e4
      replace e5 := cell_below BT e5
      replace e6 := cell_below BT e6
      replace Ev4_0 := rangeAt_on Ev4_0 BT
      replace Ev4_1 := rangeAt_on Ev4_1 BT
      replace XR := XR.on (Nat.succ_pos _) BT
      replace XP := XP.on (Nat.succ_pos _) BT
      refine tree_two rfl rfl ?_ ?_
      · skip
        go_wp2_with (go_at_call 8; (with_reducible refine (CA.out _).mono ?_); rintro _ U51 ⟨rfl, B⟩; replace BT := bon BT B; replace e1 := cell_below B e1; replace e2 := cell_below B e2; replace e3 := cell_below B e3; replace e4 := cell_below B e4; replace e5 := cell_below B e5; replace e6 := cell_below B e6; replace Ev4_0 := rangeAt_on Ev4_0 B; replace Ev4_1 := rangeAt_on Ev4_1 B; replace XR := XR.on (Nat.succ_pos _) B; replace XP := XP.on (Nat.succ_pos _) B; clear B)
        refine ⟨Ahead.of BT, ?_⟩
        refine tree_two rfl rfl ?_ ?_
        · skip
          go_wp2_with (go_at_call 8; (with_reducible refine (CB.out _).mono ?_); rintro _ U52 ⟨rfl, B⟩; replace BT := bon BT B; replace e1 := cell_below B e1; replace e2 := cell_below B e2; replace e3 := cell_below B e3; replace e4 := cell_below B e4; replace e5 := cell_below B e5; replace e6 := cell_below B e6; replace Ev4_0 := rangeAt_on Ev4_0 B; replace Ev4_1 := rangeAt_on Ev4_1 B; replace XR := XR.on (Nat.succ_pos _) B; replace XP := XP.on (Nat.succ_pos _) B; clear B)
          refine ⟨Ahead.of BT, ?_⟩
          refine tree_two rfl rfl ?_ ?_
          · skip
            go_wp2_with (go_at_call 25; (with_reducible refine (KD.out _).mono ?_); rintro _ U53 ⟨rfl, B⟩; replace BT := bon BT B; replace e1 := cell_below B e1; replace e2 := cell_below B e2; replace e3 := cell_below B e3; replace e4 := cell_below B e4; replace e5 := cell_below B e5; replace e6 := cell_below B e6; replace Ev4_0 := rangeAt_on Ev4_0 B; replace Ev4_1 := rangeAt_on Ev4_1 B; replace XR := XR.on (Nat.succ_pos _) B; replace XP := XP.on (Nat.succ_pos _) B; clear B)
            refine ⟨Ahead.of BT, ?_⟩
            refine tree_one rfl ?_
            have mb1 := BT.size
            refine wpList_allocL zero_v4 ⟨Ahead.of (bon BT (box_below _ _ _)), ?_⟩
            have B := box_below U53 #[.int .i64 0, .int .i64 0, .int .i64 0, .int .i64 0] 27
            have XQ := EBox.made U53 #[.int .i64 0, .int .i64 0, .int .i64 0, .int .i64 0] 27
            replace BT := bon BT B
            replace e1 := cell_below B e1
            replace e2 := cell_below B e2
            replace e3 := cell_below B e3
            replace e4 := cell_below B e4
            replace e5 := cell_below B e5
            replace e6 := cell_below B e6
            replace Ev4_0 := rangeAt_on Ev4_0 B
            replace Ev4_1 := rangeAt_on Ev4_1 B
            replace XR := XR.on (Nat.succ_pos _) B
            replace XP := XP.on (Nat.succ_pos _) B
            clear B
            generalize U53.alloc (.cells #[.int .i64 0, .int .i64 0, .int .i64 0, .int .i64 0] 27) = U54 at *
            generalize U53.heap.size = bq at *
            go_simp
            refine tree_one rfl ?_
            refine esetL (vs := [.int .i64 d0, .int .i64 d1, .int .i64 d2, .int .i64 d3]) rk_v4 rfl rfl XQ rfl rfl (four_one _ _ _ _) ?_
            intro U55 Y B9 hc9 hf9
            have l1 := L1.out
            have m1 := M1.out
            have LL : ∀ a : Addr, a.block < U49.heap.size → U55.cell? a = U54.cell? a := fun a h => hc9 a (by omega)
            replace e1 := (LL _ (by show w.heap.size < _; omega)).trans e1
            replace e2 := (LL _ (by show w.heap.size < _; omega)).trans e2
            replace e3 := (LL _ (by show w.heap.size < _; omega)).trans e3
            replace e4 := (LL _ (by show w.heap.size < _; omega)).trans e4
            replace e5 := (LL _ (by show w.heap.size < _; omega)).trans e5
            replace e6 := (LL _ (by show w.heap.size < _; omega)).trans e6
            replace Ev4_0 := (fun j v hv => (LL _ (by show w.heap.size + 1 < _; omega)).trans (Ev4_0 j v hv) : World.rangeAt U55 _ _ _)
            replace Ev4_1 := (fun j v hv => (LL _ (by show w.heap.size + 2 < _; omega)).trans (Ev4_1 j v hv) : World.rangeAt U55 _ _ _)
            replace BT := BT.trans (B9.mono mb1)
            replace XR := XR.keep (by omega) hc9 hf9
            replace XP := XP.keep (by omega) hc9 hf9
            replace XQ := Y
            clear B9 hc9 hf9 LL l1 mb1 m1
            refine ⟨Ahead.of BT, ?_⟩
            refine tree_nil ?_
            replace BB := bon BB BT
            clear BT
            have Ev4_2 := range_cut XP.1 0 4
            simp only [List.drop_zero, List.take_succ_cons, List.take_zero, Nat.zero_add] at Ev4_2
            have q3 := XQ.cell (i := 3) rfl
            clear XP XQ Ev4_0 Ev4_1 e1 e2 e3 e4 e5 e6
            go_wp2_with (first | ((with_reducible refine eload4L rk_v4 Ev4_2 ?_ ?_); focus rfl) | (go_at_call 26; refine (with3 c0 c1 c2 c3 d3 _).mono ?_; rintro _ _ ⟨rfl, B⟩; replace BB := bon BB B; replace XR := XR.on (Nat.succ_pos _) B; clear B) | (refine esetL (vs := [.int .i64 c0, .int .i64 c1, .int .i64 c2, .int .i64 d3]) rk_v4 rfl rfl XR rfl rfl (four_one _ _ _ _) ?_; intro V1 X1 B1 hc hf; clear hc hf; have r0 := X1.cell (i := 0) rfl; have r1 := X1.cell (i := 1) rfl; have r2 := X1.cell (i := 2) rfl; have r3 := X1.cell (i := 3) rfl))
            exact bodyPost_ret (v := .agg #[.int .i64 c0, .int .i64 c1, .int .i64 c2, .int .i64 d3]) (by simp [results, Try.results10, go_sem, r0, r1, r2, r3]) rfl ⟨rfl, BB.trans (B1.mono (by omega))⟩
          · skip
            have mb1 := BT.size
            refine wpList_allocL zero_v4 ⟨Ahead.of (bon BT (box_below _ _ _)), ?_⟩
            have B := box_below U52 #[.int .i64 0, .int .i64 0, .int .i64 0, .int .i64 0] 27
            have XQ := EBox.made U52 #[.int .i64 0, .int .i64 0, .int .i64 0, .int .i64 0] 27
            replace BT := bon BT B
            replace e1 := cell_below B e1
            replace e2 := cell_below B e2
            replace e3 := cell_below B e3
            replace e4 := cell_below B e4
            replace e5 := cell_below B e5
            replace e6 := cell_below B e6
            replace Ev4_0 := rangeAt_on Ev4_0 B
            replace Ev4_1 := rangeAt_on Ev4_1 B
            replace XR := XR.on (Nat.succ_pos _) B
            replace XP := XP.on (Nat.succ_pos _) B
            clear B
            generalize U52.alloc (.cells #[.int .i64 0, .int .i64 0, .int .i64 0, .int .i64 0] 27) = U56 at *
            generalize U52.heap.size = bq at *
            go_simp
            refine tree_one rfl ?_
            go_wp2_with (go_at_call 25; (with_reducible refine (KD.out _).mono ?_); rintro _ U57 ⟨rfl, B⟩; replace BT := bon BT B; replace e1 := cell_below B e1; replace e2 := cell_below B e2; replace e3 := cell_below B e3; replace e4 := cell_below B e4; replace e5 := cell_below B e5; replace e6 := cell_below B e6; replace Ev4_0 := rangeAt_on Ev4_0 B; replace Ev4_1 := rangeAt_on Ev4_1 B; replace XR := XR.on (Nat.succ_pos _) B; replace XP := XP.on (Nat.succ_pos _) B; replace XQ := XQ.on (Nat.succ_pos _) B; clear B)
            refine ⟨Ahead.of BT, ?_⟩
            refine tree_one rfl ?_
            refine esetL (vs := [.int .i64 d0, .int .i64 d1, .int .i64 d2, .int .i64 d3]) rk_v4 rfl rfl XQ rfl rfl (four_one _ _ _ _) ?_
            intro U58 Y B9 hc9 hf9
            have l1 := L1.out
            have m1 := M1.out
            have LL : ∀ a : Addr, a.block < U49.heap.size → U58.cell? a = U57.cell? a := fun a h => hc9 a (by omega)
            replace e1 := (LL _ (by show w.heap.size < _; omega)).trans e1
            replace e2 := (LL _ (by show w.heap.size < _; omega)).trans e2
            replace e3 := (LL _ (by show w.heap.size < _; omega)).trans e3
            replace e4 := (LL _ (by show w.heap.size < _; omega)).trans e4
            replace e5 := (LL _ (by show w.heap.size < _; omega)).trans e5
            replace e6 := (LL _ (by show w.heap.size < _; omega)).trans e6
            replace Ev4_0 := (fun j v hv => (LL _ (by show w.heap.size + 1 < _; omega)).trans (Ev4_0 j v hv) : World.rangeAt U58 _ _ _)
            replace Ev4_1 := (fun j v hv => (LL _ (by show w.heap.size + 2 < _; omega)).trans (Ev4_1 j v hv) : World.rangeAt U58 _ _ _)
            replace BT := BT.trans (B9.mono mb1)
            replace XR := XR.keep (by omega) hc9 hf9
            replace XP := XP.keep (by omega) hc9 hf9
            replace XQ := Y
            clear B9 hc9 hf9 LL l1 mb1 m1
            refine ⟨Ahead.of BT, ?_⟩
            refine tree_nil ?_
            replace BB := bon BB BT
            clear BT
            have Ev4_2 := range_cut XP.1 0 4
            simp only [List.drop_zero, List.take_succ_cons, List.take_zero, Nat.zero_add] at Ev4_2
            have q3 := XQ.cell (i := 3) rfl
            clear XP XQ Ev4_0 Ev4_1 e1 e2 e3 e4 e5 e6
            go_wp2_with (first | ((with_reducible refine eload4L rk_v4 Ev4_2 ?_ ?_); focus rfl) | (go_at_call 26; refine (with3 c0 c1 c2 c3 d3 _).mono ?_; rintro _ _ ⟨rfl, B⟩; replace BB := bon BB B; replace XR := XR.on (Nat.succ_pos _) B; clear B) | (refine esetL (vs := [.int .i64 c0, .int .i64 c1, .int .i64 c2, .int .i64 d3]) rk_v4 rfl rfl XR rfl rfl (four_one _ _ _ _) ?_; intro V1 X1 B1 hc hf; clear hc hf; have r0 := X1.cell (i := 0) rfl; have r1 := X1.cell (i := 1) rfl; have r2 := X1.cell (i := 2) rfl; have r3 := X1.cell (i := 3) rfl))
            exact bodyPost_ret (v := .agg #[.int .i64 c0, .int .i64 c1, .int .i64 c2, .int .i64 d3]) (by simp [results, Try.results10, go_sem, r0, r1, r2, r3]) rfl ⟨rfl, BB.trans (B1.mono (by omega))⟩
        · skip
          have mb1 := BT.size
          refine wpList_allocL zero_v4 ⟨Ahead.of (bon BT (box_below _ _ _)), ?_⟩
          have B := box_below U51 #[.int .i64 0, .int .i64 0, .int .i64 0, .int .i64 0] 27
          have XQ := EBox.made U51 #[.int .i64 0, .int .i64 0, .int .i64 0, .int .i64 0] 27
          replace BT := bon BT B
          replace e1 := cell_below B e1
          replace e2 := cell_below B e2
          replace e3 := cell_below B e3
          replace e4 := cell_below B e4
          replace e5 := cell_below B e5
          replace e6 := cell_below B e6
          replace Ev4_0 := rangeAt_on Ev4_0 B
          replace Ev4_1 := rangeAt_on Ev4_1 B
          replace XR := XR.on (Nat.succ_pos _) B
          replace XP := XP.on (Nat.succ_pos _) B
          clear B
          generalize U51.alloc (.cells #[.int .i64 0, .int .i64 0, .int .i64 0, .int .i64 0] 27) = U59 at *
          generalize U51.heap.size = bq at *
          go_simp
          refine tree_one rfl ?_
          go_wp2_with (go_at_call 8; (with_reducible refine (CB.out _).mono ?_); rintro _ U60 ⟨rfl, B⟩; replace BT := bon BT B; replace e1 := cell_below B e1; replace e2 := cell_below B e2; replace e3 := cell_below B e3; replace e4 := cell_below B e4; replace e5 := cell_below B e5; replace e6 := cell_below B e6; replace Ev4_0 := rangeAt_on Ev4_0 B; replace Ev4_1 := rangeAt_on Ev4_1 B; replace XR := XR.on (Nat.succ_pos _) B; replace XP := XP.on (Nat.succ_pos _) B; replace XQ := XQ.on (Nat.succ_pos _) B; clear B)
          refine ⟨Ahead.of BT, ?_⟩
          refine tree_one rfl ?_
          go_wp2_with (go_at_call 25; (with_reducible refine (KD.out _).mono ?_); rintro _ U61 ⟨rfl, B⟩; replace BT := bon BT B; replace e1 := cell_below B e1; replace e2 := cell_below B e2; replace e3 := cell_below B e3; replace e4 := cell_below B e4; replace e5 := cell_below B e5; replace e6 := cell_below B e6; replace Ev4_0 := rangeAt_on Ev4_0 B; replace Ev4_1 := rangeAt_on Ev4_1 B; replace XR := XR.on (Nat.succ_pos _) B; replace XP := XP.on (Nat.succ_pos _) B; replace XQ := XQ.on (Nat.succ_pos _) B; clear B)
          refine ⟨Ahead.of BT, ?_⟩
          refine tree_one rfl ?_
          refine esetL (vs := [.int .i64 d0, .int .i64 d1, .int .i64 d2, .int .i64 d3]) rk_v4 rfl rfl XQ rfl rfl (four_one _ _ _ _) ?_
          intro U62 Y B9 hc9 hf9
          have l1 := L1.out
          have m1 := M1.out
          have LL : ∀ a : Addr, a.block < U49.heap.size → U62.cell? a = U61.cell? a := fun a h => hc9 a (by omega)
          replace e1 := (LL _ (by show w.heap.size < _; omega)).trans e1
          replace e2 := (LL _ (by show w.heap.size < _; omega)).trans e2
          replace e3 := (LL _ (by show w.heap.size < _; omega)).trans e3
          replace e4 := (LL _ (by show w.heap.size < _; omega)).trans e4
          replace e5 := (LL _ (by show w.heap.size < _; omega)).trans e5
          replace e6 := (LL _ (by show w.heap.size < _; omega)).trans e6
          replace Ev4_0 := (fun j v hv => (LL _ (by show w.heap.size + 1 < _; omega)).trans (Ev4_0 j v hv) : World.rangeAt U62 _ _ _)
          replace Ev4_1 := (fun j v hv => (LL _ (by show w.heap.size + 2 < _; omega)).trans (Ev4_1 j v hv) : World.rangeAt U62 _ _ _)
          replace BT := BT.trans (B9.mono mb1)
          replace XR := XR.keep (by omega) hc9 hf9
          replace XP := XP.keep (by omega) hc9 hf9
          replace XQ := Y
          clear B9 hc9 hf9 LL l1 mb1 m1
          refine ⟨Ahead.of BT, ?_⟩
          refine tree_nil ?_
          replace BB := bon BB BT
          clear BT
          have Ev4_2 := range_cut XP.1 0 4
          simp only [List.drop_zero, List.take_succ_cons, List.take_zero, Nat.zero_add] at Ev4_2
          have q3 := XQ.cell (i := 3) rfl
          clear XP XQ Ev4_0 Ev4_1 e1 e2 e3 e4 e5 e6
          go_wp2_with (first | ((with_reducible refine eload4L rk_v4 Ev4_2 ?_ ?_); focus rfl) | (go_at_call 26; refine (with3 c0 c1 c2 c3 d3 _).mono ?_; rintro _ _ ⟨rfl, B⟩; replace BB := bon BB B; replace XR := XR.on (Nat.succ_pos _) B; clear B) | (refine esetL (vs := [.int .i64 c0, .int .i64 c1, .int .i64 c2, .int .i64 d3]) rk_v4 rfl rfl XR rfl rfl (four_one _ _ _ _) ?_; intro V1 X1 B1 hc hf; clear hc hf; have r0 := X1.cell (i := 0) rfl; have r1 := X1.cell (i := 1) rfl; have r2 := X1.cell (i := 2) rfl; have r3 := X1.cell (i := 3) rfl))
          exact bodyPost_ret (v := .agg #[.int .i64 c0, .int .i64 c1, .int .i64 c2, .int .i64 d3]) (by simp [results, Try.results10, go_sem, r0, r1, r2, r3]) rfl ⟨rfl, BB.trans (B1.mono (by omega))⟩
      · skip
        have mb1 := BT.size
        refine wpList_allocL zero_v4 ⟨Ahead.of (bon BT (box_below _ _ _)), ?_⟩
        have B := box_below U50 #[.int .i64 0, .int .i64 0, .int .i64 0, .int .i64 0] 27
        have XQ := EBox.made U50 #[.int .i64 0, .int .i64 0, .int .i64 0, .int .i64 0] 27
        replace BT := bon BT B
        replace e1 := cell_below B e1
        replace e2 := cell_below B e2
        replace e3 := cell_below B e3
        replace e4 := cell_below B e4
        replace e5 := cell_below B e5
        replace e6 := cell_below B e6
        replace Ev4_0 := rangeAt_on Ev4_0 B
        replace Ev4_1 := rangeAt_on Ev4_1 B
        replace XR := XR.on (Nat.succ_pos _) B
        replace XP := XP.on (Nat.succ_pos _) B
        clear B
        generalize U50.alloc (.cells #[.int .i64 0, .int .i64 0, .int .i64 0, .int .i64 0] 27) = U63 at *
        generalize U50.heap.size = bq at *
        go_simp
        refine tree_one rfl ?_
        go_wp2_with (go_at_call 8; (with_reducible refine (CA.out _).mono ?_); rintro _ U64 ⟨rfl, B⟩; replace BT := bon BT B; replace e1 := cell_below B e1; replace e2 := cell_below B e2; replace e3 := cell_below B e3; replace e4 := cell_below B e4; replace e5 := cell_below B e5; replace e6 := cell_below B e6; replace Ev4_0 := rangeAt_on Ev4_0 B; replace Ev4_1 := rangeAt_on Ev4_1 B; replace XR := XR.on (Nat.succ_pos _) B; replace XP := XP.on (Nat.succ_pos _) B; replace XQ := XQ.on (Nat.succ_pos _) B; clear B)
        refine ⟨Ahead.of BT, ?_⟩
        refine tree_one rfl ?_
        go_wp2_with (go_at_call 8; (with_reducible refine (CB.out _).mono ?_); rintro _ U65 ⟨rfl, B⟩; replace BT := bon BT B; replace e1 := cell_below B e1; replace e2 := cell_below B e2; replace e3 := cell_below B e3; replace e4 := cell_below B e4; replace e5 := cell_below B e5; replace e6 := cell_below B e6; replace Ev4_0 := rangeAt_on Ev4_0 B; replace Ev4_1 := rangeAt_on Ev4_1 B; replace XR := XR.on (Nat.succ_pos _) B; replace XP := XP.on (Nat.succ_pos _) B; replace XQ := XQ.on (Nat.succ_pos _) B; clear B)
        refine ⟨Ahead.of BT, ?_⟩
        refine tree_one rfl ?_
        go_wp2_with (go_at_call 25; (with_reducible refine (KD.out _).mono ?_); rintro _ U66 ⟨rfl, B⟩; replace BT := bon BT B; replace e1 := cell_below B e1; replace e2 := cell_below B e2; replace e3 := cell_below B e3; replace e4 := cell_below B e4; replace e5 := cell_below B e5; replace e6 := cell_below B e6; replace Ev4_0 := rangeAt_on Ev4_0 B; replace Ev4_1 := rangeAt_on Ev4_1 B; replace XR := XR.on (Nat.succ_pos _) B; replace XP := XP.on (Nat.succ_pos _) B; replace XQ := XQ.on (Nat.succ_pos _) B; clear B)
        refine ⟨Ahead.of BT, ?_⟩
        refine tree_one rfl ?_
        refine esetL (vs := [.int .i64 d0, .int .i64 d1, .int .i64 d2, .int .i64 d3]) rk_v4 rfl rfl XQ rfl rfl (four_one _ _ _ _) ?_
        intro U67 Y B9 hc9 hf9
        have l1 := L1.out
        have m1 := M1.out
        have LL : ∀ a : Addr, a.block < U49.heap.size → U67.cell? a = U66.cell? a := fun a h => hc9 a (by omega)
        replace e1 := (LL _ (by show w.heap.size < _; omega)).trans e1
        replace e2 := (LL _ (by show w.heap.size < _; omega)).trans e2
        replace e3 := (LL _ (by show w.heap.size < _; omega)).trans e3
        replace e4 := (LL _ (by show w.heap.size < _; omega)).trans e4
        replace e5 := (LL _ (by show w.heap.size < _; omega)).trans e5
        replace e6 := (LL _ (by show w.heap.size < _; omega)).trans e6
        replace Ev4_0 := (fun j v hv => (LL _ (by show w.heap.size + 1 < _; omega)).trans (Ev4_0 j v hv) : World.rangeAt U67 _ _ _)
        replace Ev4_1 := (fun j v hv => (LL _ (by show w.heap.size + 2 < _; omega)).trans (Ev4_1 j v hv) : World.rangeAt U67 _ _ _)
        replace BT := BT.trans (B9.mono mb1)
        replace XR := XR.keep (by omega) hc9 hf9
        replace XP := XP.keep (by omega) hc9 hf9
        replace XQ := Y
        clear B9 hc9 hf9 LL l1 mb1 m1
        refine ⟨Ahead.of BT, ?_⟩
        refine tree_nil ?_
        replace BB := bon BB BT
        clear BT
        have Ev4_2 := range_cut XP.1 0 4
        simp only [List.drop_zero, List.take_succ_cons, List.take_zero, Nat.zero_add] at Ev4_2
        have q3 := XQ.cell (i := 3) rfl
        clear XP XQ Ev4_0 Ev4_1 e1 e2 e3 e4 e5 e6
        go_wp2_with (first | ((with_reducible refine eload4L rk_v4 Ev4_2 ?_ ?_); focus rfl) | (go_at_call 26; refine (with3 c0 c1 c2 c3 d3 _).mono ?_; rintro _ _ ⟨rfl, B⟩; replace BB := bon BB B; replace XR := XR.on (Nat.succ_pos _) B; clear B) | (refine esetL (vs := [.int .i64 c0, .int .i64 c1, .int .i64 c2, .int .i64 d3]) rk_v4 rfl rfl XR rfl rfl (four_one _ _ _ _) ?_; intro V1 X1 B1 hc hf; clear hc hf; have r0 := X1.cell (i := 0) rfl; have r1 := X1.cell (i := 1) rfl; have r2 := X1.cell (i := 2) rfl; have r3 := X1.cell (i := 3) rfl))
        exact bodyPost_ret (v := .agg #[.int .i64 c0, .int .i64 c1, .int .i64 c2, .int .i64 d3]) (by simp [results, Try.results10, go_sem, r0, r1, r2, r3]) rfl ⟨rfl, BB.trans (B1.mono (by omega))⟩
  · skip
    have mb0 := BT.size
    refine wpList_allocL zero_v4 ⟨Ahead.of (bon BT (box_below _ _ _)), ?_⟩
    have B := box_below U1 #[.int .i64 0, .int .i64 0, .int .i64 0, .int .i64 0] 27
    have XP := EBox.made U1 #[.int .i64 0, .int .i64 0, .int .i64 0, .int .i64 0] 27
    replace BT := bon BT B
    replace e1 := cell_below B e1
    replace e2 := cell_below B e2
    replace e3 := cell_below B e3
    replace e4 := cell_below B e4
    replace e5 := cell_below B e5
    replace e6 := cell_below B e6
    replace Ev4_0 := rangeAt_on Ev4_0 B
    replace Ev4_1 := rangeAt_on Ev4_1 B
    replace XR := XR.on (Nat.succ_pos _) B
    clear B
    generalize U1.alloc (.cells #[.int .i64 0, .int .i64 0, .int .i64 0, .int .i64 0] 27) = U68 at *
    generalize U1.heap.size = bp at *
    go_simp
    refine tree_one rfl ?_
    go_wp2_with (go_at_call 8; (with_reducible refine (CF.out _).mono ?_); rintro _ U69 ⟨rfl, B⟩; replace BT := bon BT B; replace e1 := cell_below B e1; replace e2 := cell_below B e2; replace e3 := cell_below B e3; replace e4 := cell_below B e4; replace e5 := cell_below B e5; replace e6 := cell_below B e6; replace Ev4_0 := rangeAt_on Ev4_0 B; replace Ev4_1 := rangeAt_on Ev4_1 B; replace XR := XR.on (Nat.succ_pos _) B; replace XP := XP.on (Nat.succ_pos _) B; clear B)
    refine ⟨Ahead.of BT, ?_⟩
    refine tree_one rfl ?_
    go_wp2_with (go_at_call 8; (with_reducible refine (CG.out _).mono ?_); rintro _ U70 ⟨rfl, B⟩; replace BT := bon BT B; replace e1 := cell_below B e1; replace e2 := cell_below B e2; replace e3 := cell_below B e3; replace e4 := cell_below B e4; replace e5 := cell_below B e5; replace e6 := cell_below B e6; replace Ev4_0 := rangeAt_on Ev4_0 B; replace Ev4_1 := rangeAt_on Ev4_1 B; replace XR := XR.on (Nat.succ_pos _) B; replace XP := XP.on (Nat.succ_pos _) B; clear B)
    refine ⟨Ahead.of BT, ?_⟩
    refine tree_one rfl ?_
    go_wp2_with (go_at_call 25; (with_reducible refine (KC.out _).mono ?_); rintro _ U71 ⟨rfl, B⟩; replace BT := bon BT B; replace e1 := cell_below B e1; replace e2 := cell_below B e2; replace e3 := cell_below B e3; replace e4 := cell_below B e4; replace e5 := cell_below B e5; replace e6 := cell_below B e6; replace Ev4_0 := rangeAt_on Ev4_0 B; replace Ev4_1 := rangeAt_on Ev4_1 B; replace XR := XR.on (Nat.succ_pos _) B; replace XP := XP.on (Nat.succ_pos _) B; clear B)
    refine ⟨Ahead.of BT, ?_⟩
    refine tree_one rfl ?_
    refine esetL (vs := [.int .i64 c0, .int .i64 c1, .int .i64 c2, .int .i64 c3]) rk_v4 rfl rfl XP rfl rfl (four_one _ _ _ _) ?_
    intro U72 Y B9 hc9 hf9
    have l0 := L0.out
    have LL : ∀ a : Addr, a.block < V2.heap.size → U72.cell? a = U71.cell? a := fun a h => hc9 a (by omega)
    replace e1 := (LL _ (by show w.heap.size < _; omega)).trans e1
    replace e2 := (LL _ (by show w.heap.size < _; omega)).trans e2
    replace e3 := (LL _ (by show w.heap.size < _; omega)).trans e3
    replace e4 := (LL _ (by show w.heap.size < _; omega)).trans e4
    replace e5 := (LL _ (by show w.heap.size < _; omega)).trans e5
    replace e6 := (LL _ (by show w.heap.size < _; omega)).trans e6
    replace Ev4_0 := (fun j v hv => (LL _ (by show w.heap.size + 1 < _; omega)).trans (Ev4_0 j v hv) : World.rangeAt U72 _ _ _)
    replace Ev4_1 := (fun j v hv => (LL _ (by show w.heap.size + 2 < _; omega)).trans (Ev4_1 j v hv) : World.rangeAt U72 _ _ _)
    replace BT := BT.trans (B9.mono mb0)
    replace XR := XR.keep (by omega) hc9 hf9
    replace XP := Y
    clear B9 hc9 hf9 LL l0 mb0
    refine ⟨Ahead.of BT, ?_⟩
    refine tree_nil ?_
    replace BB := bon BB BT
    clear BT
    go_wp2_with fail
    go_simp
    have k_e1 := cell_regrown e1
    have k_e2 := cell_regrown e2
    have k_e3 := cell_regrown e3
    have k_e4 := cell_regrown e4
    have k_e5 := cell_regrown e5
    have k_e6 := cell_regrown e6
    have L1 := Lib.hid (XR.lt (Nat.succ_pos _))
    have M1 := Lib.hid (XP.lt (Nat.succ_pos _))
    refine wp_region_tree (.read 0 (.read 1 (.read 2 (.read 3 (.read 4 (.read 5 (.read 6 (.read 8 (.read 9 (.read 10 (.read 11 (.read 12 (.fork2 7 (.fork2 13 (.fork2 14 (.fork1 15 (.fork1 16 .nil)) 15 (.fork1 14 (.fork1 16 .nil))) 15 (.fork1 13 (.fork1 14 (.fork1 16 .nil)))) 15 (.fork1 7 (.fork1 13 (.fork1 14 (.fork1 16 .nil))))))))))))))))) (by kernel_rfl) (by kernel_rfl) ?_
    intro U73 BT
    refine tree_read rfl ?_
    (first | ((try simp only [List.getElem_toArray, List.getElem_cons_succ, List.getElem_cons_zero]); go_big_quiet_want; refine quiet_eload _ _ rfl rk_v4 rfl (fun W hW => rangeAt_on Ev4_0 (below_regrown' hW)) rfl ?_; go_simp; go_big_quiet_on) | ((try simp only [List.getElem_toArray, List.getElem_cons_succ, List.getElem_cons_zero]); go_big_quiet_want; refine quiet_eload _ _ rfl rk_v4 rfl (fun W hW => rangeAt_on Ev4_1 (below_regrown' hW)) rfl ?_; go_simp; go_big_quiet_on) | go_big_quiet_step (fail) | quiet_step (fail))
    refine wpQuiet_nil ?_
    refine tree_read rfl ?_
    (first | ((try simp only [List.getElem_toArray, List.getElem_cons_succ, List.getElem_cons_zero]); go_big_quiet_want; refine quiet_eload _ _ rfl rk_v4 rfl (fun W hW => rangeAt_on Ev4_0 (below_regrown' hW)) rfl ?_; go_simp; go_big_quiet_on) | ((try simp only [List.getElem_toArray, List.getElem_cons_succ, List.getElem_cons_zero]); go_big_quiet_want; refine quiet_eload _ _ rfl rk_v4 rfl (fun W hW => rangeAt_on Ev4_1 (below_regrown' hW)) rfl ?_; go_simp; go_big_quiet_on) | go_big_quiet_step (fail) | quiet_step (fail))
    refine wpQuiet_nil ?_
    refine tree_read rfl ?_
    (first | ((try simp only [List.getElem_toArray, List.getElem_cons_succ, List.getElem_cons_zero]); go_big_quiet_want; refine quiet_eload _ _ rfl rk_v4 rfl (fun W hW => rangeAt_on Ev4_0 (below_regrown' hW)) rfl ?_; go_simp; go_big_quiet_on) | ((try simp only [List.getElem_toArray, List.getElem_cons_succ, List.getElem_cons_zero]); go_big_quiet_want; refine quiet_eload _ _ rfl rk_v4 rfl (fun W hW => rangeAt_on Ev4_1 (below_regrown' hW)) rfl ?_; go_simp; go_big_quiet_on) | go_big_quiet_step (fail) | quiet_step (fail))
    refine wpQuiet_nil ?_
    refine tree_read rfl ?_
    (first | ((try simp only [List.getElem_toArray, List.getElem_cons_succ, List.getElem_cons_zero]); go_big_quiet_want; refine quiet_eload _ _ rfl rk_v4 rfl (fun W hW => rangeAt_on Ev4_0 (below_regrown' hW)) rfl ?_; go_simp; go_big_quiet_on) | ((try simp only [List.getElem_toArray, List.getElem_cons_succ, List.getElem_cons_zero]); go_big_quiet_want; refine quiet_eload _ _ rfl rk_v4 rfl (fun W hW => rangeAt_on Ev4_1 (below_regrown' hW)) rfl ?_; go_simp; go_big_quiet_on) | go_big_quiet_step (fail) | quiet_step (fail))
    refine wpQuiet_nil ?_
    refine tree_read rfl ?_
    (first | ((try simp only [List.getElem_toArray, List.getElem_cons_succ, List.getElem_cons_zero]); go_big_quiet_want; refine quiet_eload _ _ rfl rk_v4 rfl (fun W hW => rangeAt_on Ev4_0 (below_regrown' hW)) rfl ?_; go_simp; go_big_quiet_on) | ((try simp only [List.getElem_toArray, List.getElem_cons_succ, List.getElem_cons_zero]); go_big_quiet_want; refine quiet_eload _ _ rfl rk_v4 rfl (fun W hW => rangeAt_on Ev4_1 (below_regrown' hW)) rfl ?_; go_simp; go_big_quiet_on) | go_big_quiet_step (fail) | quiet_step (fail))
    refine wpQuiet_nil ?_
    refine tree_read rfl ?_
    (first | ((try simp only [List.getElem_toArray, List.getElem_cons_succ, List.getElem_cons_zero]); go_big_quiet_want; refine quiet_eload _ _ rfl rk_v4 rfl (fun W hW => rangeAt_on Ev4_0 (below_regrown' hW)) rfl ?_; go_simp; go_big_quiet_on) | ((try simp only [List.getElem_toArray, List.getElem_cons_succ, List.getElem_cons_zero]); go_big_quiet_want; refine quiet_eload _ _ rfl rk_v4 rfl (fun W hW => rangeAt_on Ev4_1 (below_regrown' hW)) rfl ?_; go_simp; go_big_quiet_on) | go_big_quiet_step (fail) | quiet_step (fail))
    refine wpQuiet_nil ?_
    refine tree_read rfl ?_
    (first | ((try simp only [List.getElem_toArray, List.getElem_cons_succ, List.getElem_cons_zero]); go_big_quiet_want; refine quiet_eload _ _ rfl rk_v4 rfl (fun W hW => rangeAt_on Ev4_0 (below_regrown' hW)) rfl ?_; go_simp; go_big_quiet_on) | ((try simp only [List.getElem_toArray, List.getElem_cons_succ, List.getElem_cons_zero]); go_big_quiet_want; refine quiet_eload _ _ rfl rk_v4 rfl (fun W hW => rangeAt_on Ev4_1 (below_regrown' hW)) rfl ?_; go_simp; go_big_quiet_on) | go_big_quiet_step (fail) | quiet_step (fail))
    refine wpQuiet_nil ?_
    refine tree_read rfl ?_
    (first | ((try simp only [List.getElem_toArray, List.getElem_cons_succ, List.getElem_cons_zero]); go_big_quiet_want; refine quiet_eload _ _ rfl rk_v4 rfl (fun W hW => rangeAt_on Ev4_0 (below_regrown' hW)) rfl ?_; go_simp; go_big_quiet_on) | ((try simp only [List.getElem_toArray, List.getElem_cons_succ, List.getElem_cons_zero]); go_big_quiet_want; refine quiet_eload _ _ rfl rk_v4 rfl (fun W hW => rangeAt_on Ev4_1 (below_regrown' hW)) rfl ?_; go_simp; go_big_quiet_on) | go_big_quiet_step (fail) | quiet_step (fail))
    refine wpQuiet_nil ?_
    refine tree_read rfl ?_
    (first | ((try simp only [List.getElem_toArray, List.getElem_cons_succ, List.getElem_cons_zero]); go_big_quiet_want; refine quiet_eload _ _ rfl rk_v4 rfl (fun W hW => rangeAt_on Ev4_0 (below_regrown' hW)) rfl ?_; go_simp; go_big_quiet_on) | ((try simp only [List.getElem_toArray, List.getElem_cons_succ, List.getElem_cons_zero]); go_big_quiet_want; refine quiet_eload _ _ rfl rk_v4 rfl (fun W hW => rangeAt_on Ev4_1 (below_regrown' hW)) rfl ?_; go_simp; go_big_quiet_on) | go_big_quiet_step (fail) | quiet_step (fail))
    refine wpQuiet_nil ?_
    refine tree_read rfl ?_
    (first | ((try simp only [List.getElem_toArray, List.getElem_cons_succ, List.getElem_cons_zero]); go_big_quiet_want; refine quiet_eload _ _ rfl rk_v4 rfl (fun W hW => rangeAt_on Ev4_0 (below_regrown' hW)) rfl ?_; go_simp; go_big_quiet_on) | ((try simp only [List.getElem_toArray, List.getElem_cons_succ, List.getElem_cons_zero]); go_big_quiet_want; refine quiet_eload _ _ rfl rk_v4 rfl (fun W hW => rangeAt_on Ev4_1 (below_regrown' hW)) rfl ?_; go_simp; go_big_quiet_on) | go_big_quiet_step (fail) | quiet_step (fail))
    refine wpQuiet_nil ?_
    refine tree_read rfl ?_
    (first | ((try simp only [List.getElem_toArray, List.getElem_cons_succ, List.getElem_cons_zero]); go_big_quiet_want; refine quiet_eload _ _ rfl rk_v4 rfl (fun W hW => rangeAt_on Ev4_0 (below_regrown' hW)) rfl ?_; go_simp; go_big_quiet_on) | ((try simp only [List.getElem_toArray, List.getElem_cons_succ, List.getElem_cons_zero]); go_big_quiet_want; refine quiet_eload _ _ rfl rk_v4 rfl (fun W hW => rangeAt_on Ev4_1 (below_regrown' hW)) rfl ?_; go_simp; go_big_quiet_on) | go_big_quiet_step (fail) | quiet_step (fail))
    refine wpQuiet_nil ?_
    refine tree_read rfl ?_
    (first | ((try simp only [List.getElem_toArray, List.getElem_cons_succ, List.getElem_cons_zero]); go_big_quiet_want; refine quiet_eload _ _ rfl rk_v4 rfl (fun W hW => rangeAt_on Ev4_0 (below_regrown' hW)) rfl ?_; go_simp; go_big_quiet_on) | ((try simp only [List.getElem_toArray, List.getElem_cons_succ, List.getElem_cons_zero]); go_big_quiet_want; refine quiet_eload _ _ rfl rk_v4 rfl (fun W hW => rangeAt_on Ev4_1 (below_regrown' hW)) rfl ?_; go_simp; go_big_quiet_on) | go_big_quiet_step (fail) | quiet_step (fail))
    refine wpQuiet_nil ?_
    clear k_e1 k_e2 k_e3 k_e4 k_e5 k_e6
    replace e1 := cell_below BT e1
    replace e2 := cell_below BT e2
    replace e3 := cell_below BT e3
    replace e4 := cell_below BT e4
    replace e5 := cell_below BT e5
    replace e6 := cell_below BT e6
    replace Ev4_0 := rangeAt_on Ev4_0 BT
    replace Ev4_1 := rangeAt_on Ev4_1 BT
    replace XR := XR.on (Nat.succ_pos _) BT
    replace XP := XP.on (Nat.succ_pos _) BT
    refine tree_two rfl rfl ?_ ?_
    · skip
      go_wp2_with (go_at_call 8; (with_reducible refine (CA.out _).mono ?_); rintro _ U74 ⟨rfl, B⟩; replace BT := bon BT B; replace e1 := cell_below B e1; replace e2 := cell_below B e2; replace e3 := cell_below B e3; replace e4 := cell_below B e4; replace e5 := cell_below B e5; replace e6 := cell_below B e6; replace Ev4_0 := rangeAt_on Ev4_0 B; replace Ev4_1 := rangeAt_on Ev4_1 B; replace XR := XR.on (Nat.succ_pos _) B; replace XP := XP.on (Nat.succ_pos _) B; clear B)
      refine ⟨Ahead.of BT, ?_⟩
      refine tree_two rfl rfl ?_ ?_
      · skip
        go_wp2_with (go_at_call 8; (with_reducible refine (CB.out _).mono ?_); rintro _ U75 ⟨rfl, B⟩; replace BT := bon BT B; replace e1 := cell_below B e1; replace e2 := cell_below B e2; replace e3 := cell_below B e3; replace e4 := cell_below B e4; replace e5 := cell_below B e5; replace e6 := cell_below B e6; replace Ev4_0 := rangeAt_on Ev4_0 B; replace Ev4_1 := rangeAt_on Ev4_1 B; replace XR := XR.on (Nat.succ_pos _) B; replace XP := XP.on (Nat.succ_pos _) B; clear B)
        refine ⟨Ahead.of BT, ?_⟩
        refine tree_two rfl rfl ?_ ?_
        · skip
          go_wp2_with (go_at_call 25; (with_reducible refine (KD.out _).mono ?_); rintro _ U76 ⟨rfl, B⟩; replace BT := bon BT B; replace e1 := cell_below B e1; replace e2 := cell_below B e2; replace e3 := cell_below B e3; replace e4 := cell_below B e4; replace e5 := cell_below B e5; replace e6 := cell_below B e6; replace Ev4_0 := rangeAt_on Ev4_0 B; replace Ev4_1 := rangeAt_on Ev4_1 B; replace XR := XR.on (Nat.succ_pos _) B; replace XP := XP.on (Nat.succ_pos _) B; clear B)
          refine ⟨Ahead.of BT, ?_⟩
          refine tree_one rfl ?_
          have mb1 := BT.size
          refine wpList_allocL zero_v4 ⟨Ahead.of (bon BT (box_below _ _ _)), ?_⟩
          have B := box_below U76 #[.int .i64 0, .int .i64 0, .int .i64 0, .int .i64 0] 27
          have XQ := EBox.made U76 #[.int .i64 0, .int .i64 0, .int .i64 0, .int .i64 0] 27
          replace BT := bon BT B
          replace e1 := cell_below B e1
          replace e2 := cell_below B e2
          replace e3 := cell_below B e3
          replace e4 := cell_below B e4
          replace e5 := cell_below B e5
          replace e6 := cell_below B e6
          replace Ev4_0 := rangeAt_on Ev4_0 B
          replace Ev4_1 := rangeAt_on Ev4_1 B
          replace XR := XR.on (Nat.succ_pos _) B
          replace XP := XP.on (Nat.succ_pos _) B
          clear B
          generalize U76.alloc (.cells #[.int .i64 0, .int .i64 0, .int .i64 0, .int .i64 0] 27) = U77 at *
          generalize U76.heap.size = bq at *
          go_simp
          refine tree_one rfl ?_
          refine esetL (vs := [.int .i64 d0, .int .i64 d1, .int .i64 d2, .int .i64 d3]) rk_v4 rfl rfl XQ rfl rfl (four_one _ _ _ _) ?_
          intro U78 Y B9 hc9 hf9
          have l1 := L1.out
          have m1 := M1.out
          have LL : ∀ a : Addr, a.block < U72.heap.size → U78.cell? a = U77.cell? a := fun a h => hc9 a (by omega)
          replace e1 := (LL _ (by show w.heap.size < _; omega)).trans e1
          replace e2 := (LL _ (by show w.heap.size < _; omega)).trans e2
          replace e3 := (LL _ (by show w.heap.size < _; omega)).trans e3
          replace e4 := (LL _ (by show w.heap.size < _; omega)).trans e4
          replace e5 := (LL _ (by show w.heap.size < _; omega)).trans e5
          replace e6 := (LL _ (by show w.heap.size < _; omega)).trans e6
          replace Ev4_0 := (fun j v hv => (LL _ (by show w.heap.size + 1 < _; omega)).trans (Ev4_0 j v hv) : World.rangeAt U78 _ _ _)
          replace Ev4_1 := (fun j v hv => (LL _ (by show w.heap.size + 2 < _; omega)).trans (Ev4_1 j v hv) : World.rangeAt U78 _ _ _)
          replace BT := BT.trans (B9.mono mb1)
          replace XR := XR.keep (by omega) hc9 hf9
          replace XP := XP.keep (by omega) hc9 hf9
          replace XQ := Y
          clear B9 hc9 hf9 LL l1 mb1 m1
          refine ⟨Ahead.of BT, ?_⟩
          refine tree_nil ?_
          replace BB := bon BB BT
          clear BT
          have Ev4_2 := range_cut XP.1 0 4
          simp only [List.drop_zero, List.take_succ_cons, List.take_zero, Nat.zero_add] at Ev4_2
          have q3 := XQ.cell (i := 3) rfl
          clear XP XQ Ev4_0 Ev4_1 e1 e2 e3 e4 e5 e6
          go_wp2_with (first | ((with_reducible refine eload4L rk_v4 Ev4_2 ?_ ?_); focus rfl) | (go_at_call 26; refine (with3 c0 c1 c2 c3 d3 _).mono ?_; rintro _ _ ⟨rfl, B⟩; replace BB := bon BB B; replace XR := XR.on (Nat.succ_pos _) B; clear B) | (refine esetL (vs := [.int .i64 c0, .int .i64 c1, .int .i64 c2, .int .i64 d3]) rk_v4 rfl rfl XR rfl rfl (four_one _ _ _ _) ?_; intro V1 X1 B1 hc hf; clear hc hf; have r0 := X1.cell (i := 0) rfl; have r1 := X1.cell (i := 1) rfl; have r2 := X1.cell (i := 2) rfl; have r3 := X1.cell (i := 3) rfl))
          exact bodyPost_ret (v := .agg #[.int .i64 c0, .int .i64 c1, .int .i64 c2, .int .i64 d3]) (by simp [results, Try.results10, go_sem, r0, r1, r2, r3]) rfl ⟨rfl, BB.trans (B1.mono (by omega))⟩
        · skip
          have mb1 := BT.size
          refine wpList_allocL zero_v4 ⟨Ahead.of (bon BT (box_below _ _ _)), ?_⟩
          have B := box_below U75 #[.int .i64 0, .int .i64 0, .int .i64 0, .int .i64 0] 27
          have XQ := EBox.made U75 #[.int .i64 0, .int .i64 0, .int .i64 0, .int .i64 0] 27
          replace BT := bon BT B
          replace e1 := cell_below B e1
          replace e2 := cell_below B e2
          replace e3 := cell_below B e3
          replace e4 := cell_below B e4
          replace e5 := cell_below B e5
          replace e6 := cell_below B e6
          replace Ev4_0 := rangeAt_on Ev4_0 B
          replace Ev4_1 := rangeAt_on Ev4_1 B
          replace XR := XR.on (Nat.succ_pos _) B
          replace XP := XP.on (Nat.succ_pos _) B
          clear B
          generalize U75.alloc (.cells #[.int .i64 0, .int .i64 0, .int .i64 0, .int .i64 0] 27) = U79 at *
          generalize U75.heap.size = bq at *
          go_simp
          refine tree_one rfl ?_
          go_wp2_with (go_at_call 25; (with_reducible refine (KD.out _).mono ?_); rintro _ U80 ⟨rfl, B⟩; replace BT := bon BT B; replace e1 := cell_below B e1; replace e2 := cell_below B e2; replace e3 := cell_below B e3; replace e4 := cell_below B e4; replace e5 := cell_below B e5; replace e6 := cell_below B e6; replace Ev4_0 := rangeAt_on Ev4_0 B; replace Ev4_1 := rangeAt_on Ev4_1 B; replace XR := XR.on (Nat.succ_pos _) B; replace XP := XP.on (Nat.succ_pos _) B; replace XQ := XQ.on (Nat.succ_pos _) B; clear B)
          refine ⟨Ahead.of BT, ?_⟩
          refine tree_one rfl ?_
          refine esetL (vs := [.int .i64 d0, .int .i64 d1, .int .i64 d2, .int .i64 d3]) rk_v4 rfl rfl XQ rfl rfl (four_one _ _ _ _) ?_
          intro U81 Y B9 hc9 hf9
          have l1 := L1.out
          have m1 := M1.out
          have LL : ∀ a : Addr, a.block < U72.heap.size → U81.cell? a = U80.cell? a := fun a h => hc9 a (by omega)
          replace e1 := (LL _ (by show w.heap.size < _; omega)).trans e1
          replace e2 := (LL _ (by show w.heap.size < _; omega)).trans e2
          replace e3 := (LL _ (by show w.heap.size < _; omega)).trans e3
          replace e4 := (LL _ (by show w.heap.size < _; omega)).trans e4
          replace e5 := (LL _ (by show w.heap.size < _; omega)).trans e5
          replace e6 := (LL _ (by show w.heap.size < _; omega)).trans e6
          replace Ev4_0 := (fun j v hv => (LL _ (by show w.heap.size + 1 < _; omega)).trans (Ev4_0 j v hv) : World.rangeAt U81 _ _ _)
          replace Ev4_1 := (fun j v hv => (LL _ (by show w.heap.size + 2 < _; omega)).trans (Ev4_1 j v hv) : World.rangeAt U81 _ _ _)
          replace BT := BT.trans (B9.mono mb1)
          replace XR := XR.keep (by omega) hc9 hf9
          replace XP := XP.keep (by omega) hc9 hf9
          replace XQ := Y
          clear B9 hc9 hf9 LL l1 mb1 m1
          refine ⟨Ahead.of BT, ?_⟩
          refine tree_nil ?_
          replace BB := bon BB BT
          clear BT
          have Ev4_2 := range_cut XP.1 0 4
          simp only [List.drop_zero, List.take_succ_cons, List.take_zero, Nat.zero_add] at Ev4_2
          have q3 := XQ.cell (i := 3) rfl
          clear XP XQ Ev4_0 Ev4_1 e1 e2 e3 e4 e5 e6
          go_wp2_with (first | ((with_reducible refine eload4L rk_v4 Ev4_2 ?_ ?_); focus rfl) | (go_at_call 26; refine (with3 c0 c1 c2 c3 d3 _).mono ?_; rintro _ _ ⟨rfl, B⟩; replace BB := bon BB B; replace XR := XR.on (Nat.succ_pos _) B; clear B) | (refine esetL (vs := [.int .i64 c0, .int .i64 c1, .int .i64 c2, .int .i64 d3]) rk_v4 rfl rfl XR rfl rfl (four_one _ _ _ _) ?_; intro V1 X1 B1 hc hf; clear hc hf; have r0 := X1.cell (i := 0) rfl; have r1 := X1.cell (i := 1) rfl; have r2 := X1.cell (i := 2) rfl; have r3 := X1.cell (i := 3) rfl))
          exact bodyPost_ret (v := .agg #[.int .i64 c0, .int .i64 c1, .int .i64 c2, .int .i64 d3]) (by simp [results, Try.results10, go_sem, r0, r1, r2, r3]) rfl ⟨rfl, BB.trans (B1.mono (by omega))⟩
      · skip
        have mb1 := BT.size
        refine wpList_allocL zero_v4 ⟨Ahead.of (bon BT (box_below _ _ _)), ?_⟩
        have B := box_below U74 #[.int .i64 0, .int .i64 0, .int .i64 0, .int .i64 0] 27
        have XQ := EBox.made U74 #[.int .i64 0, .int .i64 0, .int .i64 0, .int .i64 0] 27
        replace BT := bon BT B
        replace e1 := cell_below B e1
        replace e2 := cell_below B e2
        replace e3 := cell_below B e3
        replace e4 := cell_below B e4
        replace e5 := cell_below B e5
        replace e6 := cell_below B e6
        replace Ev4_0 := rangeAt_on Ev4_0 B
        replace Ev4_1 := rangeAt_on Ev4_1 B
        replace XR := XR.on (Nat.succ_pos _) B
        replace XP := XP.on (Nat.succ_pos _) B
        clear B
        generalize U74.alloc (.cells #[.int .i64 0, .int .i64 0, .int .i64 0, .int .i64 0] 27) = U82 at *
        generalize U74.heap.size = bq at *
        go_simp
        refine tree_one rfl ?_
        go_wp2_with (go_at_call 8; (with_reducible refine (CB.out _).mono ?_); rintro _ U83 ⟨rfl, B⟩; replace BT := bon BT B; replace e1 := cell_below B e1; replace e2 := cell_below B e2; replace e3 := cell_below B e3; replace e4 := cell_below B e4; replace e5 := cell_below B e5; replace e6 := cell_below B e6; replace Ev4_0 := rangeAt_on Ev4_0 B; replace Ev4_1 := rangeAt_on Ev4_1 B; replace XR := XR.on (Nat.succ_pos _) B; replace XP := XP.on (Nat.succ_pos _) B; replace XQ := XQ.on (Nat.succ_pos _) B; clear B)
        refine ⟨Ahead.of BT, ?_⟩
        refine tree_one rfl ?_
        go_wp2_with (go_at_call 25; (with_reducible refine (KD.out _).mono ?_); rintro _ U84 ⟨rfl, B⟩; replace BT := bon BT B; replace e1 := cell_below B e1; replace e2 := cell_below B e2; replace e3 := cell_below B e3; replace e4 := cell_below B e4; replace e5 := cell_below B e5; replace e6 := cell_below B e6; replace Ev4_0 := rangeAt_on Ev4_0 B; replace Ev4_1 := rangeAt_on Ev4_1 B; replace XR := XR.on (Nat.succ_pos _) B; replace XP := XP.on (Nat.succ_pos _) B; replace XQ := XQ.on (Nat.succ_pos _) B; clear B)
        refine ⟨Ahead.of BT, ?_⟩
        refine tree_one rfl ?_
        refine esetL (vs := [.int .i64 d0, .int .i64 d1, .int .i64 d2, .int .i64 d3]) rk_v4 rfl rfl XQ rfl rfl (four_one _ _ _ _) ?_
        intro U85 Y B9 hc9 hf9
        have l1 := L1.out
        have m1 := M1.out
        have LL : ∀ a : Addr, a.block < U72.heap.size → U85.cell? a = U84.cell? a := fun a h => hc9 a (by omega)
        replace e1 := (LL _ (by show w.heap.size < _; omega)).trans e1
        replace e2 := (LL _ (by show w.heap.size < _; omega)).trans e2
        replace e3 := (LL _ (by show w.heap.size < _; omega)).trans e3
        replace e4 := (LL _ (by show w.heap.size < _; omega)).trans e4
        replace e5 := (LL _ (by show w.heap.size < _; omega)).trans e5
        replace e6 := (LL _ (by show w.heap.size < _; omega)).trans e6
        replace Ev4_0 := (fun j v hv => (LL _ (by show w.heap.size + 1 < _; omega)).trans (Ev4_0 j v hv) : World.rangeAt U85 _ _ _)
        replace Ev4_1 := (fun j v hv => (LL _ (by show w.heap.size + 2 < _; omega)).trans (Ev4_1 j v hv) : World.rangeAt U85 _ _ _)
        replace BT := BT.trans (B9.mono mb1)
        replace XR := XR.keep (by omega) hc9 hf9
        replace XP := XP.keep (by omega) hc9 hf9
        replace XQ := Y
        clear B9 hc9 hf9 LL l1 mb1 m1
        refine ⟨Ahead.of BT, ?_⟩
        refine tree_nil ?_
        replace BB := bon BB BT
        clear BT
        have Ev4_2 := range_cut XP.1 0 4
        simp only [List.drop_zero, List.take_succ_cons, List.take_zero, Nat.zero_add] at Ev4_2
        have q3 := XQ.cell (i := 3) rfl
        clear XP XQ Ev4_0 Ev4_1 e1 e2 e3 e4 e5 e6
        go_wp2_with (first | ((with_reducible refine eload4L rk_v4 Ev4_2 ?_ ?_); focus rfl) | (go_at_call 26; refine (with3 c0 c1 c2 c3 d3 _).mono ?_; rintro _ _ ⟨rfl, B⟩; replace BB := bon BB B; replace XR := XR.on (Nat.succ_pos _) B; clear B) | (refine esetL (vs := [.int .i64 c0, .int .i64 c1, .int .i64 c2, .int .i64 d3]) rk_v4 rfl rfl XR rfl rfl (four_one _ _ _ _) ?_; intro V1 X1 B1 hc hf; clear hc hf; have r0 := X1.cell (i := 0) rfl; have r1 := X1.cell (i := 1) rfl; have r2 := X1.cell (i := 2) rfl; have r3 := X1.cell (i := 3) rfl))
        exact bodyPost_ret (v := .agg #[.int .i64 c0, .int .i64 c1, .int .i64 c2, .int .i64 d3]) (by simp [results, Try.results10, go_sem, r0, r1, r2, r3]) rfl ⟨rfl, BB.trans (B1.mono (by omega))⟩
    · skip
      have mb1 := BT.size
      refine wpList_allocL zero_v4 ⟨Ahead.of (bon BT (box_below _ _ _)), ?_⟩
      have B := box_below U73 #[.int .i64 0, .int .i64 0, .int .i64 0, .int .i64 0] 27
      have XQ := EBox.made U73 #[.int .i64 0, .int .i64 0, .int .i64 0, .int .i64 0] 27
      replace BT := bon BT B
      replace e1 := cell_below B e1
      replace e2 := cell_below B e2
      replace e3 := cell_below B e3
      replace e4 := cell_below B e4
      replace e5 := cell_below B e5
      replace e6 := cell_below B e6
      replace Ev4_0 := rangeAt_on Ev4_0 B
      replace Ev4_1 := rangeAt_on Ev4_1 B
      replace XR := XR.on (Nat.succ_pos _) B
      replace XP := XP.on (Nat.succ_pos _) B
      clear B
      generalize U73.alloc (.cells #[.int .i64 0, .int .i64 0, .int .i64 0, .int .i64 0] 27) = U86 at *
      generalize U73.heap.size = bq at *
      go_simp
      refine tree_one rfl ?_
      go_wp2_with (go_at_call 8; (with_reducible refine (CA.out _).mono ?_); rintro _ U87 ⟨rfl, B⟩; replace BT := bon BT B; replace e1 := cell_below B e1; replace e2 := cell_below B e2; replace e3 := cell_below B e3; replace e4 := cell_below B e4; replace e5 := cell_below B e5; replace e6 := cell_below B e6; replace Ev4_0 := rangeAt_on Ev4_0 B; replace Ev4_1 := rangeAt_on Ev4_1 B; replace XR := XR.on (Nat.succ_pos _) B; replace XP := XP.on (Nat.succ_pos _) B; replace XQ := XQ.on (Nat.succ_pos _) B; clear B)
      refine ⟨Ahead.of BT, ?_⟩
      refine tree_one rfl ?_
      go_wp2_with (go_at_call 8; (with_reducible refine (CB.out _).mono ?_); rintro _ U88 ⟨rfl, B⟩; replace BT := bon BT B; replace e1 := cell_below B e1; replace e2 := cell_below B e2; replace e3 := cell_below B e3; replace e4 := cell_below B e4; replace e5 := cell_below B e5; replace e6 := cell_below B e6; replace Ev4_0 := rangeAt_on Ev4_0 B; replace Ev4_1 := rangeAt_on Ev4_1 B; replace XR := XR.on (Nat.succ_pos _) B; replace XP := XP.on (Nat.succ_pos _) B; replace XQ := XQ.on (Nat.succ_pos _) B; clear B)
      refine ⟨Ahead.of BT, ?_⟩
      refine tree_one rfl ?_
      go_wp2_with (go_at_call 25; (with_reducible refine (KD.out _).mono ?_); rintro _ U89 ⟨rfl, B⟩; replace BT := bon BT B; replace e1 := cell_below B e1; replace e2 := cell_below B e2; replace e3 := cell_below B e3; replace e4 := cell_below B e4; replace e5 := cell_below B e5; replace e6 := cell_below B e6; replace Ev4_0 := rangeAt_on Ev4_0 B; replace Ev4_1 := rangeAt_on Ev4_1 B; replace XR := XR.on (Nat.succ_pos _) B; replace XP := XP.on (Nat.succ_pos _) B; replace XQ := XQ.on (Nat.succ_pos _) B; clear B)
      refine ⟨Ahead.of BT, ?_⟩
      refine tree_one rfl ?_
      refine esetL (vs := [.int .i64 d0, .int .i64 d1, .int .i64 d2, .int .i64 d3]) rk_v4 rfl rfl XQ rfl rfl (four_one _ _ _ _) ?_
      intro U90 Y B9 hc9 hf9
      have l1 := L1.out
      have m1 := M1.out
      have LL : ∀ a : Addr, a.block < U72.heap.size → U90.cell? a = U89.cell? a := fun a h => hc9 a (by omega)
      replace e1 := (LL _ (by show w.heap.size < _; omega)).trans e1
      replace e2 := (LL _ (by show w.heap.size < _; omega)).trans e2
      replace e3 := (LL _ (by show w.heap.size < _; omega)).trans e3
      replace e4 := (LL _ (by show w.heap.size < _; omega)).trans e4
      replace e5 := (LL _ (by show w.heap.size < _; omega)).trans e5
      replace e6 := (LL _ (by show w.heap.size < _; omega)).trans e6
      replace Ev4_0 := (fun j v hv => (LL _ (by show w.heap.size + 1 < _; omega)).trans (Ev4_0 j v hv) : World.rangeAt U90 _ _ _)
      replace Ev4_1 := (fun j v hv => (LL _ (by show w.heap.size + 2 < _; omega)).trans (Ev4_1 j v hv) : World.rangeAt U90 _ _ _)
      replace BT := BT.trans (B9.mono mb1)
      replace XR := XR.keep (by omega) hc9 hf9
      replace XP := XP.keep (by omega) hc9 hf9
      replace XQ := Y
      clear B9 hc9 hf9 LL l1 mb1 m1
      refine ⟨Ahead.of BT, ?_⟩
      refine tree_nil ?_
      replace BB := bon BB BT
      clear BT
      have Ev4_2 := range_cut XP.1 0 4
      simp only [List.drop_zero, List.take_succ_cons, List.take_zero, Nat.zero_add] at Ev4_2
      have q3 := XQ.cell (i := 3) rfl
      clear XP XQ Ev4_0 Ev4_1 e1 e2 e3 e4 e5 e6
      go_wp2_with (first | ((with_reducible refine eload4L rk_v4 Ev4_2 ?_ ?_); focus rfl) | (go_at_call 26; refine (with3 c0 c1 c2 c3 d3 _).mono ?_; rintro _ _ ⟨rfl, B⟩; replace BB := bon BB B; replace XR := XR.on (Nat.succ_pos _) B; clear B) | (refine esetL (vs := [.int .i64 c0, .int .i64 c1, .int .i64 c2, .int .i64 d3]) rk_v4 rfl rfl XR rfl rfl (four_one _ _ _ _) ?_; intro V1 X1 B1 hc hf; clear hc hf; have r0 := X1.cell (i := 0) rfl; have r1 := X1.cell (i := 1) rfl; have r2 := X1.cell (i := 2) rfl; have r3 := X1.cell (i := 3) rfl))
      exact bodyPost_ret (v := .agg #[.int .i64 c0, .int .i64 c1, .int .i64 c2, .int .i64 d3]) (by simp [results, Try.results10, go_sem, r0, r1, r2, r3]) rfl ⟨rfl, BB.trans (B1.mono (by omega))⟩

end Go.Proofs.Ytainijafljpiaaa
