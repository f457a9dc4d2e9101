/- The walk of the law MatrixPerspective. -/
import Derived.Test.YtlchecnencbamaaM8
namespace Go.Proofs.Ytlchecnencbamaa
open Go.RowKit Go.Sort

/-- A vector stored into the block that was made last. -/
theorem wpList_vfill {P : Program} {ops : Array Oper} {rest : List Oper} {o : Oper} {a : Act} {W : World} {Q : Exit → Act → World → Prop} (hg : o.guard = none) (t : TypeId) (x y : Operand) (ho : o.op = .store t x y) (v0 v1 v2 v3 : Value) (T : (P.info? t).map (·.size) = some 4)
    (h1 : (#[v0, v1, v2, v3] : Array Value).all (·.oneCell') = true) (hx : a.eval x = .pointer (some ⟨W.heap.size, 0, none⟩)) (hy : a.eval y = .agg #[v0, v1, v2, v3])
    (h : wpList P ops Q rest (a.put o.dst undef) (W.alloc (.cells #[v0, v1, v2, v3] t))) : wpList P ops Q (o :: rest) a (W.alloc (.cells #[.int .i64 0, .int .i64 0, .int .i64 0, .int .i64 0] t)) :=
  wpList_plain hg fun _ hK => by
    unfold Oper.wp execOp
    simp only [ho, hx, hy, Instr.storeAt, Instr.sureAddr, Sem.run_bind, Sem.run_pure, Result.andThen_ok, run_storeVar_new W t #[.int .i64 0, .int .i64 0, .int .i64 0, .int .i64 0] #[v0, v1, v2, v3] T rfl h1]
    exact hK _ _ h

theorem perm_row (fo ra ne fa : Int) : rowv (perm fo ra ne fa) 3 0 = 0 ∧ rowv (perm fo ra ne fa) 3 1 = 0 ∧ rowv (perm fo ra ne fa) 3 2 = 65536 ∧ rowv (perm fo ra ne fa) 3 3 = 0 := ⟨rfl, rfl, rfl, rfl⟩

set_option maxRecDepth 100000 in
set_option maxHeartbeats 8000000 in
theorem perspective_yes (f0 f1 f2 f3 x0 x1 x2 x3 : Int) (w : World) (h : good f0 f1 f2 f3) :
    Calls Try.prog 9 #[.agg #[.int .i64 f0, .int .i64 f1, .int .i64 f2, .int .i64 f3], .agg #[.int .i64 x0, .int .i64 x1, .int .i64 x2, .int .i64 x3]] w fun e w' => e = .returned (.bool true) ∧ Below w.heap.size w w' := by
  obtain ⟨BB, a0, a1, a2, a3, c0, c1, c2, c3⟩ := argsP4 w f0 f1 f2 f3 x0 x1 x2 x3 49 25
  have EQ := meq
  have GU := mguard
  have H := Lib.hid h
  clear h
  have hp := persp_yes f0 f1 f2 f3
  have A0 := perm_0 f0 f1 f2 f3
  have A1 := perm_1 f0 f1 f2 f3
  have A2 := perm_2 f0 f1 f2 f3
  have A3 := perm_3 f0 f1 f2 f3
  obtain ⟨R0, R1, R2, R3⟩ := perm_row f0 f1 f2 f3
  replace hp := Lib.hid (fun w => hp w H.out)
  generalize perm f0 f1 f2 f3 = g at *
  generalize hpz : pz f0 f1 f2 f3 = q at *
  clear hpz H
  go_enter Try.func9, Try.ntmps9
  go_wp2_with (first
    | (go_at_call 21; clear a2 a3; refine (hp.out _).mono ?_; rintro _ W1 ⟨rfl, B⟩; (replace BB := bon BB B; replace a0 := cell_below B a0; replace a1 := cell_below B a1; replace c0 := cell_below B c0; replace c1 := cell_below B c1; replace c2 := cell_below B c2; replace c3 := cell_below B c3); clear B)
    | (refine wpList_mfill (W := W1) rfl _ _ _ rfl g matT rfl rfl ?_; go_simp; have M5 := mat_box W1 g 23; have B := box_below W1 ((mats g)) 23; (replace BB := bon BB B; replace a0 := cell_below B a0; replace a1 := cell_below B a1; replace c0 := cell_below B c0; replace c1 := cell_below B c1; replace c2 := cell_below B c2; replace c3 := cell_below B c3); clear B; generalize W1.heap.size = s1 at *)
    | (refine wpList_mload rfl _ _ rfl matT M5 rfl ?_; go_simp)
    | (go_at_call 12; have hno := p0; clear hno; refine (apply_b _ _ _ _ _ _).mono ?_; rintro _ W3 ⟨rfl, B⟩; rw [A0, A1, A2, A3]; (replace BB := bon BB B; replace M5 := mat_below B M5; replace a0 := cell_below B a0; replace a1 := cell_below B a1; replace c0 := cell_below B c0; replace c1 := cell_below B c1; replace c2 := cell_below B c2; replace c3 := cell_below B c3; replace p0 := cell_below B p0; replace p1 := cell_below B p1; replace p2 := cell_below B p2; replace p3 := cell_below B p3); clear B)
    | (refine wpList_vfill (W := W3) rfl _ _ _ rfl (.int .i64 (mulv (divv f0 f1) x1)) (.int .i64 (mulv f0 x0)) (.int .i64 (q x2 x3)) (.int .i64 (sat x2)) (by kernel_rfl) (by simp [Value.oneCell']) rfl rfl ?_; go_simp; have r0 := box_cell W3 #[.int .i64 (mulv (divv f0 f1) x1), .int .i64 (mulv f0 x0), .int .i64 (q x2 x3), .int .i64 (sat x2)] 25 0 _ rfl; have r1 := box_cell W3 #[.int .i64 (mulv (divv f0 f1) x1), .int .i64 (mulv f0 x0), .int .i64 (q x2 x3), .int .i64 (sat x2)] 25 1 _ rfl; have r2 := box_cell W3 #[.int .i64 (mulv (divv f0 f1) x1), .int .i64 (mulv f0 x0), .int .i64 (q x2 x3), .int .i64 (sat x2)] 25 2 _ rfl; have r3 := box_cell W3 #[.int .i64 (mulv (divv f0 f1) x1), .int .i64 (mulv f0 x0), .int .i64 (q x2 x3), .int .i64 (sat x2)] 25 3 _ rfl; have B := box_below W3 #[.int .i64 (mulv (divv f0 f1) x1), .int .i64 (mulv f0 x0), .int .i64 (q x2 x3), .int .i64 (sat x2)] 25; (replace BB := bon BB B; replace M5 := mat_below B M5; replace a0 := cell_below B a0; replace a1 := cell_below B a1; replace c0 := cell_below B c0; replace c1 := cell_below B c1; replace c2 := cell_below B c2; replace c3 := cell_below B c3; replace p0 := cell_below B p0; replace p1 := cell_below B p1; replace p2 := cell_below B p2; replace p3 := cell_below B p3); clear B; generalize W3.heap.size = s3 at *)
    | (go_at_call 12; refine (apply_b _ _ _ _ _ _).mono ?_; rintro _ W2 ⟨rfl, B⟩; rw [A0, A1, A2, A3]; (replace BB := bon BB B; replace M5 := mat_below B M5; replace a0 := cell_below B a0; replace a1 := cell_below B a1; replace c0 := cell_below B c0; replace c1 := cell_below B c1; replace c2 := cell_below B c2; replace c3 := cell_below B c3); clear B)
    | (refine wpList_vfill (W := W2) rfl _ _ _ rfl (.int .i64 (mulv (divv f0 f1) x0)) (.int .i64 (mulv f0 x1)) (.int .i64 (q x2 x3)) (.int .i64 (sat x2)) (by kernel_rfl) (by simp [Value.oneCell']) rfl rfl ?_; go_simp; have p0 := box_cell W2 #[.int .i64 (mulv (divv f0 f1) x0), .int .i64 (mulv f0 x1), .int .i64 (q x2 x3), .int .i64 (sat x2)] 25 0 _ rfl; have p1 := box_cell W2 #[.int .i64 (mulv (divv f0 f1) x0), .int .i64 (mulv f0 x1), .int .i64 (q x2 x3), .int .i64 (sat x2)] 25 1 _ rfl; have p2 := box_cell W2 #[.int .i64 (mulv (divv f0 f1) x0), .int .i64 (mulv f0 x1), .int .i64 (q x2 x3), .int .i64 (sat x2)] 25 2 _ rfl; have p3 := box_cell W2 #[.int .i64 (mulv (divv f0 f1) x0), .int .i64 (mulv f0 x1), .int .i64 (q x2 x3), .int .i64 (sat x2)] 25 3 _ rfl; have B := box_below W2 #[.int .i64 (mulv (divv f0 f1) x0), .int .i64 (mulv f0 x1), .int .i64 (q x2 x3), .int .i64 (sat x2)] 25; (replace BB := bon BB B; replace M5 := mat_below B M5; replace a0 := cell_below B a0; replace a1 := cell_below B a1; replace c0 := cell_below B c0; replace c1 := cell_below B c1; replace c2 := cell_below B c2; replace c3 := cell_below B c3); clear B; generalize W2.heap.size = s2 at *))
  clear A0 A1 A2 A3 hp
  have k_M5 := mat_regrown M5
  have k_a0 := cell_regrown a0
  have k_a1 := cell_regrown a1
  have k_c0 := cell_regrown c0
  have k_c1 := cell_regrown c1
  have k_c2 := cell_regrown c2
  have k_c3 := cell_regrown c3
  have k_p0 := cell_regrown p0
  have k_p1 := cell_regrown p1
  have k_p2 := cell_regrown p2
  have k_p3 := cell_regrown p3
  have k_r0 := cell_regrown r0
  have k_r1 := cell_regrown r1
  have k_r2 := cell_regrown r2
  have k_r3 := cell_regrown r3
  refine wp_region_quiet_below (by kernel_rfl) (by kernel_rfl) ?_
  repeat (first | (go_big_quiet_want; refine quiet_mload _ _ rfl matT (fun W hW => mat_class M5 hW) rfl ?_; go_simp; go_big_quiet_on) | go_big_quiet_step ((first | (go_at_call 33; exact Calls.regrown_of (limited_b _ _)) | (go_at_call 34; exact Calls.regrown_of (div_b _ _ _)) | (go_at_call 32; exact Calls.regrown_of (mul_b _ _ _)))) | quiet_step ((first | (go_at_call 33; exact Calls.regrown_of (limited_b _ _)) | (go_at_call 34; exact Calls.regrown_of (div_b _ _ _)) | (go_at_call 32; exact Calls.regrown_of (mul_b _ _ _)))))
  refine wpQuiet_nil ?_
  intro W hw'
  have B := below_regrown' hw'
  clear hw' k_M5 k_a0 k_a1 k_c0 k_c1 k_c2 k_c3 k_p0 k_p1 k_p2 k_p3 k_r0 k_r1 k_r2 k_r3
  replace BB := bon BB B
  replace M5 := mat_below B M5
  replace a0 := cell_below B a0
  replace a1 := cell_below B a1
  replace c0 := cell_below B c0
  replace c1 := cell_below B c1
  replace c2 := cell_below B c2
  replace c3 := cell_below B c3
  replace p0 := cell_below B p0
  replace p1 := cell_below B p1
  replace p2 := cell_below B p2
  replace p3 := cell_below B p3
  replace r0 := cell_below B r0
  replace r1 := cell_below B r1
  replace r2 := cell_below B r2
  replace r3 := cell_below B r3
  go_wp2_with (first | (refine wpList_mload rfl _ _ rfl matT M5 rfl ?_; go_simp) | (go_at_call 10; refine (row_b _ _ _).mono ?_; rintro _ _ ⟨rfl, B⟩; replace BB := bon BB B; replace M5 := mat_below B M5; replace a0 := cell_below B a0; replace a1 := cell_below B a1; replace c0 := cell_below B c0; replace c1 := cell_below B c1; replace c2 := cell_below B c2; replace c3 := cell_below B c3; replace p0 := cell_below B p0; replace p1 := cell_below B p1; replace p2 := cell_below B p2; replace p3 := cell_below B p3; replace r0 := cell_below B r0; replace r1 := cell_below B r1; replace r2 := cell_below B r2; replace r3 := cell_below B r3) | (go_at_call 18; refine (example_b _).mono ?_; rintro _ _ ⟨rfl, B⟩; replace BB := bon BB B; replace M5 := mat_below B M5; replace a0 := cell_below B a0; replace a1 := cell_below B a1; replace c0 := cell_below B c0; replace c1 := cell_below B c1; replace c2 := cell_below B c2; replace c3 := cell_below B c3; replace p0 := cell_below B p0; replace p1 := cell_below B p1; replace p2 := cell_below B p2; replace p3 := cell_below B p3; replace r0 := cell_below B r0; replace r1 := cell_below B r1; replace r2 := cell_below B r2; replace r3 := cell_below B r3))
  go_ret
  exact ⟨rfl, BB⟩

theorem perspective_walk (f0 f1 f2 f3 x0 x1 x2 x3 : Int) (w : World) :
    Calls Try.prog 9 #[.agg #[.int .i64 f0, .int .i64 f1, .int .i64 f2, .int .i64 f3], .agg #[.int .i64 x0, .int .i64 x1, .int .i64 x2, .int .i64 x3]] w fun e w' => e = .returned (.bool true) ∧ Below w.heap.size w w' := by
  by_cases h : good f0 f1 f2 f3
  · exact perspective_yes f0 f1 f2 f3 x0 x1 x2 x3 w h
  · exact perspective_no f0 f1 f2 f3 x0 x1 x2 x3 w h

end Go.Proofs.Ytlchecnencbamaa
