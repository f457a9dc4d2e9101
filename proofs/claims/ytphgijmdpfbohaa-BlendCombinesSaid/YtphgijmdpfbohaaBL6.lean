/- The walk of BlendCombines. -/
import Derived.Test.YtphgijmdpfbohaaBL5
namespace Go.Proofs.Ytphgijmdpfbohaa
set_option linter.unusedSimpArgs false
open Go.RowKit Go.Sort Go.ChangeShapes Go.WideShapes
set_option linter.unusedVariables false

theorem combine_at (op s sf t tf v : Int) (h : combv op s sf t tf = v) (w : World) : Calls Try.prog 13 #[.int .i64 op, .int .i64 s, .int .i64 sf, .int .i64 t, .int .i64 tf] w fun e w' => e = .returned (.int .i64 v) ∧ Below w.heap.size w w' := h ▸ combine_b op s sf t tf w

theorem rcombine_at (op s sf t tf v : Int) (h : combv op s sf t tf = v) (w : World) : Calls Try.prog 14 #[.int .i64 op, .int .i64 s, .int .i64 sf, .int .i64 t, .int .i64 tf] w fun e w' => e = .returned (.int .i64 v) ∧ Below w.heap.size w w' := h ▸ rcombine_b op s sf t tf w

theorem combv_bd (s sf t tf : Int) : (-536870911 ≤ combv 2 s sf t tf ∧ combv 2 s sf t tf ≤ 536870911) ∧ (-536870911 ≤ combv 3 s sf t tf ∧ combv 3 s sf t tf ≤ 536870911) := by
  have h1 := sat_bd (sat (mulv s sf) - sat (mulv t tf))
  have h2 := sat_bd (sat (mulv t tf) - sat (mulv s sf))
  simp only [combv, subv]
  simp
  omega

set_option maxRecDepth 100000 in
set_option maxHeartbeats 4000000 in
theorem combines_two (a0 a1 b0 b1 t : Int) (hs : combv 2 a0 a1 b0 b1 = -t) (ht : combv 2 b0 b1 a0 a1 = t) (hv : combv 3 a0 a1 b0 b1 = t) (b1' : -536870911 ≤ t) (b2' : t ≤ 536870911) (w : World) : Calls Try.prog 4 #[.int .i64 2, .agg #[.int .i64 a0, .int .i64 a1], .agg #[.int .i64 b0, .int .i64 b1]] w fun e w' => e = .returned (.bool true) ∧ Below w.heap.size w w' := by
  have CS := Lib.hid (fun W => combine_at 2 a0 a1 b0 b1 (-t) hs W)
  have CT := Lib.hid (fun W => combine_at 2 b0 b1 a0 a1 t ht W)
  have CV := Lib.hid (fun W => combine_at 3 a0 a1 b0 b1 t hv W)
  have CR := Lib.hid (fun W => rcombine_at 2 a0 a1 b0 b1 (-t) hs W)
  clear hs ht hv
  have BB := box_below w #[.int .i64 a0, .int .i64 a1] 32
  have X0 := EBox.made w #[.int .i64 a0, .int .i64 a1] 32
  have hsz1 : (w.alloc (.cells #[.int .i64 a0, .int .i64 a1] 32)).heap.size = w.heap.size + 1 := by simp
  have X1 := EBox.made (w.alloc (.cells #[.int .i64 a0, .int .i64 a1] 32)) #[.int .i64 b0, .int .i64 b1] 32
  rw [hsz1] at X1
  replace X0 := X0.on (Nat.succ_pos _) (box_below (w.alloc (.cells #[.int .i64 a0, .int .i64 a1] 32)) #[.int .i64 b0, .int .i64 b1] 32)
  replace BB := bon BB (box_below (w.alloc (.cells #[.int .i64 a0, .int .i64 a1] 32)) #[.int .i64 b0, .int .i64 b1] 32)
  clear hsz1
  have p0 := X0.cell (i := 0) rfl
  have p1 := X0.cell (i := 1) rfl
  have q0 := X1.cell (i := 0) rfl
  have q1 := X1.cell (i := 1) rfl
  clear X0 X1
  go_enter Try.func4, Try.ntmps4
  go_wp2_with fail
  have k_p0 := cell_regrown p0
  have k_p1 := cell_regrown p1
  have k_q0 := cell_regrown q0
  have k_q1 := cell_regrown q1
  refine wp_region_quiet_below (by kernel_rfl) (by kernel_rfl) ?_
  repeat (first | go_big_quiet_step ((first | (go_at_call 13; with_reducible exact Calls.regrown_of (CS.out _)) | (go_at_call 13; with_reducible exact Calls.regrown_of (CT.out _)) | (go_at_call 13; with_reducible exact Calls.regrown_of (CV.out _)))) | quiet_step ((first | (go_at_call 13; with_reducible exact Calls.regrown_of (CS.out _)) | (go_at_call 13; with_reducible exact Calls.regrown_of (CT.out _)) | (go_at_call 13; with_reducible exact Calls.regrown_of (CV.out _)))))
  refine wpQuiet_nil ?_
  intro W hw'
  have B := below_regrown' hw'
  clear hw' k_p0 k_p1 k_q0 k_q1
  replace BB := bon BB B
  replace p0 := cell_below B p0
  replace p1 := cell_below B p1
  replace q0 := cell_below B q0
  replace q1 := cell_below B q1
  go_wp2_with (first
    | (go_at_call 14; (with_reducible refine (CR.out _).mono ?_); rintro _ _ ⟨rfl, B⟩; (replace BB := bon BB B; replace p0 := cell_below B p0; replace p1 := cell_below B p1; replace q0 := cell_below B q0; replace q1 := cell_below B q1); clear B))
  have k_p0 := cell_regrown p0
  have k_p1 := cell_regrown p1
  have k_q0 := cell_regrown q0
  have k_q1 := cell_regrown q1
  refine wp_region_quiet_below (by kernel_rfl) (by kernel_rfl) ?_
  repeat (first | go_big_quiet_step ((first | (go_at_call 13; with_reducible exact Calls.regrown_of (CS.out _)) | (go_at_call 13; with_reducible exact Calls.regrown_of (CT.out _)) | (go_at_call 13; with_reducible exact Calls.regrown_of (CV.out _)))) | quiet_step ((first | (go_at_call 13; with_reducible exact Calls.regrown_of (CS.out _)) | (go_at_call 13; with_reducible exact Calls.regrown_of (CT.out _)) | (go_at_call 13; with_reducible exact Calls.regrown_of (CV.out _)))))
  refine wpQuiet_nil ?_
  intro W hw'
  have B := below_regrown' hw'
  clear hw' k_p0 k_p1 k_q0 k_q1
  replace BB := bon BB B
  replace p0 := cell_below B p0
  replace p1 := cell_below B p1
  replace q0 := cell_below B q0
  replace q1 := cell_below B q1
  go_wp2_with (go_at_call 12; refine (example40_b _).mono ?_; rintro _ _ ⟨rfl, B⟩; (replace BB := bon BB B; replace p0 := cell_below B p0; replace p1 := cell_below B p1; replace q0 := cell_below B q0; replace q1 := cell_below B q1); clear B)
  go_ret
  exact ⟨rfl, BB⟩

set_option maxRecDepth 100000 in
set_option maxHeartbeats 4000000 in
theorem combines_three (a0 a1 b0 b1 t : Int) (hs : combv 3 a0 a1 b0 b1 = -t) (ht : combv 3 b0 b1 a0 a1 = t) (hv : combv 2 a0 a1 b0 b1 = t) (b1' : -536870911 ≤ t) (b2' : t ≤ 536870911) (w : World) : Calls Try.prog 4 #[.int .i64 3, .agg #[.int .i64 a0, .int .i64 a1], .agg #[.int .i64 b0, .int .i64 b1]] w fun e w' => e = .returned (.bool true) ∧ Below w.heap.size w w' := by
  have CS := Lib.hid (fun W => combine_at 3 a0 a1 b0 b1 (-t) hs W)
  have CT := Lib.hid (fun W => combine_at 3 b0 b1 a0 a1 t ht W)
  have CV := Lib.hid (fun W => combine_at 2 a0 a1 b0 b1 t hv W)
  have CR := Lib.hid (fun W => rcombine_at 3 a0 a1 b0 b1 (-t) hs W)
  clear hs ht hv
  have BB := box_below w #[.int .i64 a0, .int .i64 a1] 32
  have X0 := EBox.made w #[.int .i64 a0, .int .i64 a1] 32
  have hsz1 : (w.alloc (.cells #[.int .i64 a0, .int .i64 a1] 32)).heap.size = w.heap.size + 1 := by simp
  have X1 := EBox.made (w.alloc (.cells #[.int .i64 a0, .int .i64 a1] 32)) #[.int .i64 b0, .int .i64 b1] 32
  rw [hsz1] at X1
  replace X0 := X0.on (Nat.succ_pos _) (box_below (w.alloc (.cells #[.int .i64 a0, .int .i64 a1] 32)) #[.int .i64 b0, .int .i64 b1] 32)
  replace BB := bon BB (box_below (w.alloc (.cells #[.int .i64 a0, .int .i64 a1] 32)) #[.int .i64 b0, .int .i64 b1] 32)
  clear hsz1
  have p0 := X0.cell (i := 0) rfl
  have p1 := X0.cell (i := 1) rfl
  have q0 := X1.cell (i := 0) rfl
  have q1 := X1.cell (i := 1) rfl
  clear X0 X1
  go_enter Try.func4, Try.ntmps4
  go_wp2_with fail
  have k_p0 := cell_regrown p0
  have k_p1 := cell_regrown p1
  have k_q0 := cell_regrown q0
  have k_q1 := cell_regrown q1
  refine wp_region_quiet_below (by kernel_rfl) (by kernel_rfl) ?_
  repeat (first | go_big_quiet_step ((first | (go_at_call 13; with_reducible exact Calls.regrown_of (CS.out _)) | (go_at_call 13; with_reducible exact Calls.regrown_of (CT.out _)) | (go_at_call 13; with_reducible exact Calls.regrown_of (CV.out _)))) | quiet_step ((first | (go_at_call 13; with_reducible exact Calls.regrown_of (CS.out _)) | (go_at_call 13; with_reducible exact Calls.regrown_of (CT.out _)) | (go_at_call 13; with_reducible exact Calls.regrown_of (CV.out _)))))
  refine wpQuiet_nil ?_
  intro W hw'
  have B := below_regrown' hw'
  clear hw' k_p0 k_p1 k_q0 k_q1
  replace BB := bon BB B
  replace p0 := cell_below B p0
  replace p1 := cell_below B p1
  replace q0 := cell_below B q0
  replace q1 := cell_below B q1
  go_wp2_with (first
    | (go_at_call 14; (with_reducible refine (CR.out _).mono ?_); rintro _ _ ⟨rfl, B⟩; (replace BB := bon BB B; replace p0 := cell_below B p0; replace p1 := cell_below B p1; replace q0 := cell_below B q0; replace q1 := cell_below B q1); clear B))
  have k_p0 := cell_regrown p0
  have k_p1 := cell_regrown p1
  have k_q0 := cell_regrown q0
  have k_q1 := cell_regrown q1
  refine wp_region_quiet_below (by kernel_rfl) (by kernel_rfl) ?_
  repeat (first | go_big_quiet_step ((first | (go_at_call 13; with_reducible exact Calls.regrown_of (CS.out _)) | (go_at_call 13; with_reducible exact Calls.regrown_of (CT.out _)) | (go_at_call 13; with_reducible exact Calls.regrown_of (CV.out _)))) | quiet_step ((first | (go_at_call 13; with_reducible exact Calls.regrown_of (CS.out _)) | (go_at_call 13; with_reducible exact Calls.regrown_of (CT.out _)) | (go_at_call 13; with_reducible exact Calls.regrown_of (CV.out _)))))
  refine wpQuiet_nil ?_
  intro W hw'
  have B := below_regrown' hw'
  clear hw' k_p0 k_p1 k_q0 k_q1
  replace BB := bon BB B
  replace p0 := cell_below B p0
  replace p1 := cell_below B p1
  replace q0 := cell_below B q0
  replace q1 := cell_below B q1
  go_wp2_with (go_at_call 12; refine (example40_b _).mono ?_; rintro _ _ ⟨rfl, B⟩; (replace BB := bon BB B; replace p0 := cell_below B p0; replace p1 := cell_below B p1; replace q0 := cell_below B q0; replace q1 := cell_below B q1); clear B)
  go_ret
  exact ⟨rfl, BB⟩

set_option maxRecDepth 100000 in
set_option maxHeartbeats 4000000 in
theorem combines_other (op a0 a1 b0 b1 s v : Int) (h2 : op ≠ 2) (h3 : op ≠ 3) (hs : combv op a0 a1 b0 b1 = s) (ht : combv op b0 b1 a0 a1 = s) (hu : combv 2 a0 a1 b0 b1 = -v) (hv : combv 3 a0 a1 b0 b1 = v) (b1' : -536870911 ≤ v) (b2' : v ≤ 536870911) (w : World) : Calls Try.prog 4 #[.int .i64 op, .agg #[.int .i64 a0, .int .i64 a1], .agg #[.int .i64 b0, .int .i64 b1]] w fun e w' => e = .returned (.bool true) ∧ Below w.heap.size w w' := by
  have CS := Lib.hid (fun W => combine_at op a0 a1 b0 b1 s hs W)
  have CT := Lib.hid (fun W => combine_at op b0 b1 a0 a1 s ht W)
  have CU := Lib.hid (fun W => combine_at 2 a0 a1 b0 b1 (-v) hu W)
  have CV := Lib.hid (fun W => combine_at 3 a0 a1 b0 b1 v hv W)
  have CR := Lib.hid (fun W => rcombine_at op a0 a1 b0 b1 s hs W)
  have g2 : (op == 2) = false := by simpa using h2
  have g3 : (op == 3) = false := by simpa using h3
  clear hs ht hu hv
  have BB := box_below w #[.int .i64 a0, .int .i64 a1] 32
  have X0 := EBox.made w #[.int .i64 a0, .int .i64 a1] 32
  have hsz1 : (w.alloc (.cells #[.int .i64 a0, .int .i64 a1] 32)).heap.size = w.heap.size + 1 := by simp
  have X1 := EBox.made (w.alloc (.cells #[.int .i64 a0, .int .i64 a1] 32)) #[.int .i64 b0, .int .i64 b1] 32
  rw [hsz1] at X1
  replace X0 := X0.on (Nat.succ_pos _) (box_below (w.alloc (.cells #[.int .i64 a0, .int .i64 a1] 32)) #[.int .i64 b0, .int .i64 b1] 32)
  replace BB := bon BB (box_below (w.alloc (.cells #[.int .i64 a0, .int .i64 a1] 32)) #[.int .i64 b0, .int .i64 b1] 32)
  clear hsz1
  have p0 := X0.cell (i := 0) rfl
  have p1 := X0.cell (i := 1) rfl
  have q0 := X1.cell (i := 0) rfl
  have q1 := X1.cell (i := 1) rfl
  clear X0 X1
  go_enter Try.func4, Try.ntmps4
  go_wp2_with fail
  have k_p0 := cell_regrown p0
  have k_p1 := cell_regrown p1
  have k_q0 := cell_regrown q0
  have k_q1 := cell_regrown q1
  refine wp_region_quiet_below (by kernel_rfl) (by kernel_rfl) ?_
  repeat (first | go_big_quiet_step ((first | (go_at_call 13; with_reducible exact Calls.regrown_of (CS.out _)) | (go_at_call 13; with_reducible exact Calls.regrown_of (CT.out _)) | (go_at_call 13; with_reducible exact Calls.regrown_of (CU.out _)) | (go_at_call 13; with_reducible exact Calls.regrown_of (CV.out _)))) | quiet_step ((first | (go_at_call 13; with_reducible exact Calls.regrown_of (CS.out _)) | (go_at_call 13; with_reducible exact Calls.regrown_of (CT.out _)) | (go_at_call 13; with_reducible exact Calls.regrown_of (CU.out _)) | (go_at_call 13; with_reducible exact Calls.regrown_of (CV.out _)))))
  refine wpQuiet_nil ?_
  intro W hw'
  have B := below_regrown' hw'
  clear hw' k_p0 k_p1 k_q0 k_q1
  replace BB := bon BB B
  replace p0 := cell_below B p0
  replace p1 := cell_below B p1
  replace q0 := cell_below B q0
  replace q1 := cell_below B q1
  go_wp2_with (first
    | (go_at_call 14; (with_reducible refine (CR.out _).mono ?_); rintro _ _ ⟨rfl, B⟩; (replace BB := bon BB B; replace p0 := cell_below B p0; replace p1 := cell_below B p1; replace q0 := cell_below B q0; replace q1 := cell_below B q1); clear B))
  have k_p0 := cell_regrown p0
  have k_p1 := cell_regrown p1
  have k_q0 := cell_regrown q0
  have k_q1 := cell_regrown q1
  refine wp_region_quiet_below (by kernel_rfl) (by kernel_rfl) ?_
  repeat (first | go_big_quiet_step ((first | (go_at_call 13; with_reducible exact Calls.regrown_of (CS.out _)) | (go_at_call 13; with_reducible exact Calls.regrown_of (CT.out _)) | (go_at_call 13; with_reducible exact Calls.regrown_of (CU.out _)) | (go_at_call 13; with_reducible exact Calls.regrown_of (CV.out _)))) | quiet_step ((first | (go_at_call 13; with_reducible exact Calls.regrown_of (CS.out _)) | (go_at_call 13; with_reducible exact Calls.regrown_of (CT.out _)) | (go_at_call 13; with_reducible exact Calls.regrown_of (CU.out _)) | (go_at_call 13; with_reducible exact Calls.regrown_of (CV.out _)))))
  refine wpQuiet_nil ?_
  intro W hw'
  have B := below_regrown' hw'
  clear hw' k_p0 k_p1 k_q0 k_q1
  replace BB := bon BB B
  replace p0 := cell_below B p0
  replace p1 := cell_below B p1
  replace q0 := cell_below B q0
  replace q1 := cell_below B q1
  go_wp2_with (go_at_call 12; refine (example40_b _).mono ?_; rintro _ _ ⟨rfl, B⟩; (replace BB := bon BB B; replace p0 := cell_below B p0; replace p1 := cell_below B p1; replace q0 := cell_below B q0; replace q1 := cell_below B q1); clear B)
  go_ret
  exact ⟨rfl, BB⟩

theorem combines_walk (op a0 a1 b0 b1 : Int) (w : World) : Calls Try.prog 4 #[.int .i64 op, .agg #[.int .i64 a0, .int .i64 a1], .agg #[.int .i64 b0, .int .i64 b1]] w fun e w' => e = .returned (.bool true) ∧ Below w.heap.size w w' := by
  have hb := combv_bd a0 a1 b0 b1
  have hb2 := combv_bd b0 b1 a0 a1
  have e1 := combv_neg a0 a1 b0 b1
  have e2 := combv_two a0 a1 b0 b1
  have e3 := combv_three a0 a1 b0 b1
  by_cases h2 : op = 2
  · subst h2
    exact combines_two a0 a1 b0 b1 _ e2 rfl (by omega) hb2.1.1 hb2.1.2 w
  by_cases h3 : op = 3
  · subst h3
    exact combines_three a0 a1 b0 b1 _ e3 rfl (by omega) hb2.2.1 hb2.2.2 w
  exact combines_other op a0 a1 b0 b1 _ _ h2 h3 rfl (combv_comm op a0 a1 b0 b1 h2 h3).symm e1 rfl hb.2.1 hb.2.2 w

end Go.Proofs.Ytphgijmdpfbohaa
