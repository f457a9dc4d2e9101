/- The walk of BlendReplaces. -/
import Derived.Test.YtainijafljpiaaaBL7
namespace Go.Proofs.Ytainijafljpiaaa
set_option linter.unusedSimpArgs false
open Go.RowKit Go.Sort Go.ChangeShapes Go.WideShapes
set_option linter.unusedVariables false

theorem rk_bs : RowK Try.prog 25 8 := ⟨⟨_, Try.underlying25, rfl⟩, by kernel_rfl⟩

theorem comb_src (s t : Int) : combv 1 s 65536 t 0 = sat s := by
  simp [combv, mulv_one, mulv_zero, addv_zero, sat_sat]

theorem comb_tgt (s t : Int) : combv 1 s 0 t 65536 = sat t := by
  rw [show combv 1 s 0 t 65536 = addv (mulv s 0) (mulv t 65536) by simp [combv], addv_comm, mulv_one, mulv_zero, addv_zero, sat_sat]

theorem blend_src (mk s0 s1 s2 s3 t0 t1 t2 t3 : Int) (w : World) : Calls Try.prog 10 #[.agg #[.bool true, .int .i64 2, .int .i64 1, .int .i64 1, .int .i64 2, .int .i64 1, .int .i64 1, .int .i64 mk], .agg #[.int .i64 s0, .int .i64 s1, .int .i64 s2, .int .i64 s3], .agg #[.int .i64 t0, .int .i64 t1, .int .i64 t2, .int .i64 t3]] w fun e w' => e = .returned (.agg #[.int .i64 (sat s0), .int .i64 (sat s1), .int .i64 (sat s2), .int .i64 (sat s3)]) ∧ Below w.heap.size w w' :=
  blend_on 2 1 1 2 1 1 mk s0 s1 s2 s3 t0 t1 t2 t3 65536 65536 65536 65536 0 0 0 0 65536 65536 65536 65536 0 0 0 0 (sat s0) (sat s1) (sat s2) (sat s3) (sat s0) (sat s1) (sat s2) (sat s3)
    (Lib.hid fun W => factor_at 2 s0 s1 s2 s3 t0 t1 t2 t3 65536 65536 65536 65536 (by simp [facv]) (by simp [facv]) (by simp [facv]) (by simp [facv]) W) (Lib.hid fun W => factor_at 1 s0 s1 s2 s3 t0 t1 t2 t3 0 0 0 0 (by simp [facv]) (by simp [facv]) (by simp [facv]) (by simp [facv]) W) (Lib.hid fun W => factor_at 2 s0 s1 s2 s3 t0 t1 t2 t3 65536 65536 65536 65536 (by simp [facv]) (by simp [facv]) (by simp [facv]) (by simp [facv]) W) (Lib.hid fun W => factor_at 1 s0 s1 s2 s3 t0 t1 t2 t3 0 0 0 0 (by simp [facv]) (by simp [facv]) (by simp [facv]) (by simp [facv]) W)
    (Lib.hid fun W => combined_at 1 s0 s1 s2 s3 65536 65536 65536 65536 t0 t1 t2 t3 0 0 0 0 (sat s0) (sat s1) (sat s2) (sat s3) (comb_src _ _) (comb_src _ _) (comb_src _ _) (comb_src _ _) W)
    (Lib.hid fun W => combined_at 1 s0 s1 s2 s3 65536 65536 65536 65536 t0 t1 t2 t3 0 0 0 0 (sat s0) (sat s1) (sat s2) (sat s3) (comb_src _ _) (comb_src _ _) (comb_src _ _) (comb_src _ _) W) w

theorem blend_tgt (mk s0 s1 s2 s3 t0 t1 t2 t3 : Int) (w : World) : Calls Try.prog 10 #[.agg #[.bool true, .int .i64 1, .int .i64 2, .int .i64 1, .int .i64 1, .int .i64 2, .int .i64 1, .int .i64 mk], .agg #[.int .i64 s0, .int .i64 s1, .int .i64 s2, .int .i64 s3], .agg #[.int .i64 t0, .int .i64 t1, .int .i64 t2, .int .i64 t3]] w fun e w' => e = .returned (.agg #[.int .i64 (sat t0), .int .i64 (sat t1), .int .i64 (sat t2), .int .i64 (sat t3)]) ∧ Below w.heap.size w w' :=
  blend_on 1 2 1 1 2 1 mk s0 s1 s2 s3 t0 t1 t2 t3 0 0 0 0 65536 65536 65536 65536 0 0 0 0 65536 65536 65536 65536 (sat t0) (sat t1) (sat t2) (sat t3) (sat t0) (sat t1) (sat t2) (sat t3)
    (Lib.hid fun W => factor_at 1 s0 s1 s2 s3 t0 t1 t2 t3 0 0 0 0 (by simp [facv]) (by simp [facv]) (by simp [facv]) (by simp [facv]) W) (Lib.hid fun W => factor_at 2 s0 s1 s2 s3 t0 t1 t2 t3 65536 65536 65536 65536 (by simp [facv]) (by simp [facv]) (by simp [facv]) (by simp [facv]) W) (Lib.hid fun W => factor_at 1 s0 s1 s2 s3 t0 t1 t2 t3 0 0 0 0 (by simp [facv]) (by simp [facv]) (by simp [facv]) (by simp [facv]) W) (Lib.hid fun W => factor_at 2 s0 s1 s2 s3 t0 t1 t2 t3 65536 65536 65536 65536 (by simp [facv]) (by simp [facv]) (by simp [facv]) (by simp [facv]) W)
    (Lib.hid fun W => combined_at 1 s0 s1 s2 s3 0 0 0 0 t0 t1 t2 t3 65536 65536 65536 65536 (sat t0) (sat t1) (sat t2) (sat t3) (comb_tgt _ _) (comb_tgt _ _) (comb_tgt _ _) (comb_tgt _ _) W)
    (Lib.hid fun W => combined_at 1 s0 s1 s2 s3 0 0 0 0 t0 t1 t2 t3 65536 65536 65536 65536 (sat t0) (sat t1) (sat t2) (sat t3) (comb_tgt _ _) (comb_tgt _ _) (comb_tgt _ _) (comb_tgt _ _) W) w

set_option maxRecDepth 100000 in
set_option maxHeartbeats 4000000 in
theorem replaces_walk (en : Bool) (sc tc cop sa ta aop mk s0 s1 s2 s3 t0 t1 t2 t3 : Int) (w : World) : Calls Try.prog 5 #[.agg #[.bool en, .int .i64 sc, .int .i64 tc, .int .i64 cop, .int .i64 sa, .int .i64 ta, .int .i64 aop, .int .i64 mk], .agg #[.int .i64 s0, .int .i64 s1, .int .i64 s2, .int .i64 s3], .agg #[.int .i64 t0, .int .i64 t1, .int .i64 t2, .int .i64 t3]] w fun e w' => e = .returned (.bool true) ∧ Below w.heap.size w w' := by
  have BB := box_below w #[.bool en, .int .i64 sc, .int .i64 tc, .int .i64 cop, .int .i64 sa, .int .i64 ta, .int .i64 aop, .int .i64 mk] 25
  have X0 := EBox.made w #[.bool en, .int .i64 sc, .int .i64 tc, .int .i64 cop, .int .i64 sa, .int .i64 ta, .int .i64 aop, .int .i64 mk] 25
  have hsz1 : (w.alloc (.cells #[.bool en, .int .i64 sc, .int .i64 tc, .int .i64 cop, .int .i64 sa, .int .i64 ta, .int .i64 aop, .int .i64 mk] 25)).heap.size = w.heap.size + 1 := by simp
  have X1 := EBox.made (w.alloc (.cells #[.bool en, .int .i64 sc, .int .i64 tc, .int .i64 cop, .int .i64 sa, .int .i64 ta, .int .i64 aop, .int .i64 mk] 25)) #[.int .i64 s0, .int .i64 s1, .int .i64 s2, .int .i64 s3] 27
  rw [hsz1] at X1
  replace X0 := X0.on (Nat.succ_pos _) (box_below (w.alloc (.cells #[.bool en, .int .i64 sc, .int .i64 tc, .int .i64 cop, .int .i64 sa, .int .i64 ta, .int .i64 aop, .int .i64 mk] 25)) #[.int .i64 s0, .int .i64 s1, .int .i64 s2, .int .i64 s3] 27)
  replace BB := bon BB (box_below (w.alloc (.cells #[.bool en, .int .i64 sc, .int .i64 tc, .int .i64 cop, .int .i64 sa, .int .i64 ta, .int .i64 aop, .int .i64 mk] 25)) #[.int .i64 s0, .int .i64 s1, .int .i64 s2, .int .i64 s3] 27)
  clear hsz1
  have hsz2 : ((w.alloc (.cells #[.bool en, .int .i64 sc, .int .i64 tc, .int .i64 cop, .int .i64 sa, .int .i64 ta, .int .i64 aop, .int .i64 mk] 25)).alloc (.cells #[.int .i64 s0, .int .i64 s1, .int .i64 s2, .int .i64 s3] 27)).heap.size = w.heap.size + 2 := by simp
  have X2 := EBox.made ((w.alloc (.cells #[.bool en, .int .i64 sc, .int .i64 tc, .int .i64 cop, .int .i64 sa, .int .i64 ta, .int .i64 aop, .int .i64 mk] 25)).alloc (.cells #[.int .i64 s0, .int .i64 s1, .int .i64 s2, .int .i64 s3] 27)) #[.int .i64 t0, .int .i64 t1, .int .i64 t2, .int .i64 t3] 27
  rw [hsz2] at X2
  replace X0 := X0.on (Nat.succ_pos _) (box_below ((w.alloc (.cells #[.bool en, .int .i64 sc, .int .i64 tc, .int .i64 cop, .int .i64 sa, .int .i64 ta, .int .i64 aop, .int .i64 mk] 25)).alloc (.cells #[.int .i64 s0, .int .i64 s1, .int .i64 s2, .int .i64 s3] 27)) #[.int .i64 t0, .int .i64 t1, .int .i64 t2, .int .i64 t3] 27)
  replace X1 := X1.on (Nat.succ_pos _) (box_below ((w.alloc (.cells #[.bool en, .int .i64 sc, .int .i64 tc, .int .i64 cop, .int .i64 sa, .int .i64 ta, .int .i64 aop, .int .i64 mk] 25)).alloc (.cells #[.int .i64 s0, .int .i64 s1, .int .i64 s2, .int .i64 s3] 27)) #[.int .i64 t0, .int .i64 t1, .int .i64 t2, .int .i64 t3] 27)
  replace BB := bon BB (box_below ((w.alloc (.cells #[.bool en, .int .i64 sc, .int .i64 tc, .int .i64 cop, .int .i64 sa, .int .i64 ta, .int .i64 aop, .int .i64 mk] 25)).alloc (.cells #[.int .i64 s0, .int .i64 s1, .int .i64 s2, .int .i64 s3] 27)) #[.int .i64 t0, .int .i64 t1, .int .i64 t2, .int .i64 t3] 27)
  clear hsz2
  have m7 := X0.cell (i := 7) rfl
  have Ebs_0 := range_cut X0.1 0 8
  simp only [List.drop_succ_cons, List.drop_zero, List.take_succ_cons, List.take_zero, Nat.zero_add] at Ebs_0
  have Ev4_0 := range_cut X1.1 0 4
  simp only [List.drop_succ_cons, List.drop_zero, List.take_succ_cons, List.take_zero, Nat.zero_add] at Ev4_0
  have Ev4_1 := range_cut X2.1 0 4
  simp only [List.drop_succ_cons, List.drop_zero, List.take_succ_cons, List.take_zero, Nat.zero_add] at Ev4_1
  clear X0 X1 X2
  have CO := Lib.hid (fun W => blend_off sc tc cop sa ta aop mk s0 s1 s2 s3 t0 t1 t2 t3 W)
  have CP := Lib.hid (fun W => blend_src mk s0 s1 s2 s3 t0 t1 t2 t3 W)
  have CQ := Lib.hid (fun W => blend_tgt mk s0 s1 s2 s3 t0 t1 t2 t3 W)
  have CS := Lib.hid (fun W => limitedVec_b s0 s1 s2 s3 W)
  have CT := Lib.hid (fun W => limitedVec_b t0 t1 t2 t3 W)
  go_enter Try.func5, Try.ntmps5
  go_wp2_with ((with_reducible refine eload8L rk_bs Ebs_0 ?_ ?_); focus rfl)
  have hsz : ((((w.alloc (.cells #[.bool en, .int .i64 sc, .int .i64 tc, .int .i64 cop, .int .i64 sa, .int .i64 ta, .int .i64 aop, .int .i64 mk] 25)).alloc (.cells #[.int .i64 s0, .int .i64 s1, .int .i64 s2, .int .i64 s3] 27)).alloc (.cells #[.int .i64 t0, .int .i64 t1, .int .i64 t2, .int .i64 t3] 27))).heap.size = w.heap.size + 3 := by simp
  have B := box_below ((((w.alloc (.cells #[.bool en, .int .i64 sc, .int .i64 tc, .int .i64 cop, .int .i64 sa, .int .i64 ta, .int .i64 aop, .int .i64 mk] 25)).alloc (.cells #[.int .i64 s0, .int .i64 s1, .int .i64 s2, .int .i64 s3] 27)).alloc (.cells #[.int .i64 t0, .int .i64 t1, .int .i64 t2, .int .i64 t3] 27))) #[.bool false, .int .i64 sc, .int .i64 tc, .int .i64 cop, .int .i64 sa, .int .i64 ta, .int .i64 aop, .int .i64 mk] 25
  have Ebs_1 := range_cut (EBox.made ((((w.alloc (.cells #[.bool en, .int .i64 sc, .int .i64 tc, .int .i64 cop, .int .i64 sa, .int .i64 ta, .int .i64 aop, .int .i64 mk] 25)).alloc (.cells #[.int .i64 s0, .int .i64 s1, .int .i64 s2, .int .i64 s3] 27)).alloc (.cells #[.int .i64 t0, .int .i64 t1, .int .i64 t2, .int .i64 t3] 27))) #[.bool false, .int .i64 sc, .int .i64 tc, .int .i64 cop, .int .i64 sa, .int .i64 ta, .int .i64 aop, .int .i64 mk] 25).1 0 8
  rw [hsz] at Ebs_1
  simp only [List.drop_zero, List.take_succ_cons, List.take_zero, Nat.zero_add] at Ebs_1
  replace BB := bon BB B
  replace m7 := cell_below B m7
  replace Ev4_0 := rangeAt_on Ev4_0 B
  replace Ev4_1 := rangeAt_on Ev4_1 B
  clear B hsz Ebs_0
  have k_m7 := cell_regrown m7
  refine wp_region_quiet_below (by kernel_rfl) (by kernel_rfl) ?_
  repeat (first | (go_big_quiet_want; refine quiet_eload _ _ rfl rk_v4 rfl (fun W hW => rangeAt_on Ev4_0 (below_regrown' hW)) rfl ?_; go_simp; go_big_quiet_on) | (go_big_quiet_want; refine quiet_eload _ _ rfl rk_v4 rfl (fun W hW => rangeAt_on Ev4_1 (below_regrown' hW)) rfl ?_; go_simp; go_big_quiet_on) | (go_big_quiet_want; refine quiet_eload _ _ rfl rk_bs rfl (fun W hW => rangeAt_on Ebs_1 (below_regrown' hW)) rfl ?_; go_simp; go_big_quiet_on) | go_big_quiet_step ((first | (go_at_call 10; with_reducible exact Calls.regrown_of (CO.out _)) | (go_at_call 15; with_reducible exact Calls.regrown_of (CS.out _)))) | quiet_step ((first | (go_at_call 10; with_reducible exact Calls.regrown_of (CO.out _)) | (go_at_call 15; with_reducible exact Calls.regrown_of (CS.out _)))))
  refine wpQuiet_nil ?_
  intro W hw'
  have B := below_regrown' hw'
  clear hw' k_m7
  replace BB := bon BB B
  replace m7 := cell_below B m7
  replace Ev4_0 := rangeAt_on Ev4_0 B
  replace Ev4_1 := rangeAt_on Ev4_1 B
  replace Ebs_1 := rangeAt_on Ebs_1 B
  clear Ebs_1
  have m8 := cell_below (box_below W #[.bool true, .int .i64 2, .int .i64 1, .int .i64 1, .int .i64 2, .int .i64 1, .int .i64 1, .int .i64 mk] 25) m7
  go_wp2_with fail
  have hsz : (W.alloc (.cells #[.bool true, .int .i64 2, .int .i64 1, .int .i64 1, .int .i64 2, .int .i64 1, .int .i64 1, .int .i64 mk] 25)).heap.size = W.heap.size + 1 := by simp
  have B := box_below W #[.bool true, .int .i64 2, .int .i64 1, .int .i64 1, .int .i64 2, .int .i64 1, .int .i64 1, .int .i64 mk] 25
  have Y0 := EBox.made W #[.bool true, .int .i64 2, .int .i64 1, .int .i64 1, .int .i64 2, .int .i64 1, .int .i64 1, .int .i64 mk] 25
  replace BB := bon BB B
  replace m7 := cell_below B m7
  replace Ev4_0 := rangeAt_on Ev4_0 B
  replace Ev4_1 := rangeAt_on Ev4_1 B
  clear B m8
  have B := box_below (W.alloc (.cells #[.bool true, .int .i64 2, .int .i64 1, .int .i64 1, .int .i64 2, .int .i64 1, .int .i64 1, .int .i64 mk] 25)) #[.bool true, .int .i64 1, .int .i64 2, .int .i64 1, .int .i64 1, .int .i64 2, .int .i64 1, .int .i64 mk] 25
  have Y1 := EBox.made (W.alloc (.cells #[.bool true, .int .i64 2, .int .i64 1, .int .i64 1, .int .i64 2, .int .i64 1, .int .i64 1, .int .i64 mk] 25)) #[.bool true, .int .i64 1, .int .i64 2, .int .i64 1, .int .i64 1, .int .i64 2, .int .i64 1, .int .i64 mk] 25
  rw [hsz] at Y1
  replace Y0 := Y0.on (Nat.succ_pos _) B
  replace BB := bon BB B
  replace m7 := cell_below B m7
  replace Ev4_0 := rangeAt_on Ev4_0 B
  replace Ev4_1 := rangeAt_on Ev4_1 B
  have Ebs_2 := range_cut Y0.1 0 8
  have Ebs_3 := range_cut Y1.1 0 8
  simp only [List.drop_zero, List.take_succ_cons, List.take_zero, Nat.zero_add] at Ebs_2 Ebs_3
  clear B Y0 Y1 hsz m7
  refine wp_region_quiet_below (by kernel_rfl) (by kernel_rfl) ?_
  repeat (first | (go_big_quiet_want; refine quiet_eload _ _ rfl rk_v4 rfl (fun W hW => rangeAt_on Ev4_0 (below_regrown' hW)) rfl ?_; go_simp; go_big_quiet_on) | (go_big_quiet_want; refine quiet_eload _ _ rfl rk_v4 rfl (fun W hW => rangeAt_on Ev4_1 (below_regrown' hW)) rfl ?_; go_simp; go_big_quiet_on) | (go_big_quiet_want; refine quiet_eload _ _ rfl rk_bs rfl (fun W hW => rangeAt_on Ebs_2 (below_regrown' hW)) rfl ?_; go_simp; go_big_quiet_on) | (go_big_quiet_want; refine quiet_eload _ _ rfl rk_bs rfl (fun W hW => rangeAt_on Ebs_3 (below_regrown' hW)) rfl ?_; go_simp; go_big_quiet_on) | go_big_quiet_step ((first | (go_at_call 10; with_reducible exact Calls.regrown_of (CP.out _)) | (go_at_call 10; with_reducible exact Calls.regrown_of (CQ.out _)) | (go_at_call 15; with_reducible exact Calls.regrown_of (CS.out _)) | (go_at_call 15; with_reducible exact Calls.regrown_of (CT.out _)) | (go_at_call 12; exact Calls.regrown_of (example40_b _)))) | quiet_step ((first | (go_at_call 10; with_reducible exact Calls.regrown_of (CP.out _)) | (go_at_call 10; with_reducible exact Calls.regrown_of (CQ.out _)) | (go_at_call 15; with_reducible exact Calls.regrown_of (CS.out _)) | (go_at_call 15; with_reducible exact Calls.regrown_of (CT.out _)) | (go_at_call 12; exact Calls.regrown_of (example40_b _)))))
  refine wpQuiet_nil ?_
  intro W hw'
  have B := below_regrown' hw'
  clear hw'
  replace BB := bon BB B
  replace Ev4_0 := rangeAt_on Ev4_0 B
  replace Ev4_1 := rangeAt_on Ev4_1 B
  replace Ebs_2 := rangeAt_on Ebs_2 B
  replace Ebs_3 := rangeAt_on Ebs_3 B
  go_wp2
  go_ret
  exact ⟨rfl, BB⟩

end Go.Proofs.Ytainijafljpiaaa
