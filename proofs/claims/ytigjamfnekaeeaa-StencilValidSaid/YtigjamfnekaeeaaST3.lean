/- The walks of the six laws of stage 39. -/
import Derived.Test.YtigjamfnekaeeaaST2
import Derived.Laws.StructEq
namespace Go.Proofs.Ytigjamfnekaeeaa
set_option linter.unusedSimpArgs false
open Go.RowKit Go.Sort Go.ChangeShapes Go.WideShapes
set_option linter.unusedVariables false

theorem apply_at (op v r n : Int) (h : aply op v r = n) (w : World) : Calls Try.prog 11 #[.int .i64 op, .int .i64 v, .int .i64 r] w fun e w' => e = .returned (.int .i64 n) ∧ Below w.heap.size w w' := h ▸ apply_b op v r w

set_option maxRecDepth 100000 in
theorem example39_b (w : World) : Calls Try.prog 10 #[] w fun e w' => e = .returned (.bool true) ∧ Below w.heap.size w w' := by
  have BB := Below.refl w.heap.size w
  go_enter Try.func10, Try.ntmps10
  go_wp2_with (go_at_call 11; first
    | ((with_reducible refine (apply_at 4 255 0 255 rfl _).mono ?_); rintro _ _ ⟨rfl, B⟩; replace BB := bon BB B; clear B)
    | ((with_reducible refine (apply_at 7 255 0 0 rfl _).mono ?_); rintro _ _ ⟨rfl, B⟩; replace BB := bon BB B; clear B))
  go_ret
  exact ⟨rfl, BB⟩

set_option maxRecDepth 100000 in
theorem sapply_walk (op v r : Int) (w : World) : Calls Try.prog 4 #[.int .i64 op, .int .i64 v, .int .i64 r] w fun e w' => e = .returned (.bool true) ∧ Below w.heap.size w w' := by
  have BB := Below.refl w.heap.size w
  go_enter Try.func4, Try.ntmps4
  go_wp2_with (first | (go_at_call 11; refine (apply_b op v r _).mono ?_; rintro _ _ ⟨rfl, B⟩; replace BB := bon BB B) | (go_at_call 12; refine (rapply_b op v r _).mono ?_; rintro _ _ ⟨rfl, B⟩; replace BB := bon BB B) | (go_at_call 10; refine (example39_b _).mono ?_; rintro _ _ ⟨rfl, B⟩; replace BB := bon BB B))
  go_ret
  exact ⟨rfl, BB⟩

set_option maxRecDepth 100000 in
set_option maxHeartbeats 1000000 in
theorem spasses_t (t : Bool) (f0 f1 f2 f3 g0 g1 g2 g3 r rm wm : Int) (v : Int) (sp dp : Bool) (w : World) : Calls Try.prog 5 #[.agg #[.bool t, .int .i64 f0, .int .i64 f1, .int .i64 f2, .int .i64 f3, .int .i64 g0, .int .i64 g1, .int .i64 g2, .int .i64 g3, .int .i64 r, .int .i64 rm, .int .i64 wm, .bool true, .int .i64 v, .bool sp, .bool dp]] w fun e w' => e = .returned (.bool true) ∧ Below w.heap.size w w' := by
  have X0 := EBox.made w #[.bool t, .int .i64 f0, .int .i64 f1, .int .i64 f2, .int .i64 f3, .int .i64 g0, .int .i64 g1, .int .i64 g2, .int .i64 g3, .int .i64 r, .int .i64 rm, .int .i64 wm, .bool true, .int .i64 v, .bool sp, .bool dp] 29
  have BB := box_below w #[.bool t, .int .i64 f0, .int .i64 f1, .int .i64 f2, .int .i64 f3, .int .i64 g0, .int .i64 g1, .int .i64 g2, .int .i64 g3, .int .i64 r, .int .i64 rm, .int .i64 wm, .bool true, .int .i64 v, .bool sp, .bool dp] 29
  have c0 := X0.cell (i := 0) rfl
  have c11 := X0.cell (i := 11) rfl
  have c12 := X0.cell (i := 12) rfl
  have c13 := X0.cell (i := 13) rfl
  have c14 := X0.cell (i := 14) rfl
  have c15 := X0.cell (i := 15) rfl
  have Ess : (w.alloc (.cells #[.bool t, .int .i64 f0, .int .i64 f1, .int .i64 f2, .int .i64 f3, .int .i64 g0, .int .i64 g1, .int .i64 g2, .int .i64 g3, .int .i64 r, .int .i64 rm, .int .i64 wm, .bool true, .int .i64 v, .bool sp, .bool dp] 29)).rangeAt w.heap.size 0 [.bool t, .int .i64 f0, .int .i64 f1, .int .i64 f2, .int .i64 f3, .int .i64 g0, .int .i64 g1, .int .i64 g2, .int .i64 g3, .int .i64 r, .int .i64 rm, .int .i64 wm] := range_cut X0.1 0 12
  clear X0
  go_enter Try.func5, Try.ntmps5
  go_wp2_with fail
  have k_c0 := cell_regrown c0
  have k_c11 := cell_regrown c11
  have k_c12 := cell_regrown c12
  have k_c13 := cell_regrown c13
  have k_c14 := cell_regrown c14
  have k_c15 := cell_regrown c15
  refine wp_region_quiet_below (by kernel_rfl) (by kernel_rfl) ?_
  repeat (first | (go_big_quiet_want; refine quiet_eload _ _ rfl rk_ss rfl (fun W hW => rangeAt_on Ess (below_regrown' hW)) rfl ?_; go_simp; go_big_quiet_on) | go_big_quiet_step ((first | (go_at_call 13; exact Calls.regrown_of (passes_t t f0 f1 f2 f3 g0 g1 g2 g3 r rm wm v _)) | (go_at_call 14; exact Calls.regrown_of (rpasses_t t f0 f1 f2 f3 g0 g1 g2 g3 r rm wm v _)) | (go_at_call 10; exact Calls.regrown_of (example39_b _)))) | quiet_step ((first | (go_at_call 13; exact Calls.regrown_of (passes_t t f0 f1 f2 f3 g0 g1 g2 g3 r rm wm v _)) | (go_at_call 14; exact Calls.regrown_of (rpasses_t t f0 f1 f2 f3 g0 g1 g2 g3 r rm wm v _)) | (go_at_call 10; exact Calls.regrown_of (example39_b _)))))
  refine wpQuiet_nil ?_
  intro W hw'
  have B := below_regrown' hw'
  clear hw' k_c0 k_c11 k_c12 k_c13 k_c14 k_c15
  replace BB := bon BB B
  replace c0 := cell_below B c0
  replace c11 := cell_below B c11
  replace c12 := cell_below B c12
  replace c13 := cell_below B c13
  replace c14 := cell_below B c14
  replace c15 := cell_below B c15
  replace Ess := rangeAt_on Ess B
  go_wp2
  go_ret
  exact ⟨rfl, BB⟩

set_option maxRecDepth 100000 in
set_option maxHeartbeats 1000000 in
theorem spasses_f (t : Bool) (f0 f1 f2 f3 g0 g1 g2 g3 r rm wm : Int) (v : Int) (sp dp : Bool) (w : World) : Calls Try.prog 5 #[.agg #[.bool t, .int .i64 f0, .int .i64 f1, .int .i64 f2, .int .i64 f3, .int .i64 g0, .int .i64 g1, .int .i64 g2, .int .i64 g3, .int .i64 r, .int .i64 rm, .int .i64 wm, .bool false, .int .i64 v, .bool sp, .bool dp]] w fun e w' => e = .returned (.bool true) ∧ Below w.heap.size w w' := by
  have X0 := EBox.made w #[.bool t, .int .i64 f0, .int .i64 f1, .int .i64 f2, .int .i64 f3, .int .i64 g0, .int .i64 g1, .int .i64 g2, .int .i64 g3, .int .i64 r, .int .i64 rm, .int .i64 wm, .bool false, .int .i64 v, .bool sp, .bool dp] 29
  have BB := box_below w #[.bool t, .int .i64 f0, .int .i64 f1, .int .i64 f2, .int .i64 f3, .int .i64 g0, .int .i64 g1, .int .i64 g2, .int .i64 g3, .int .i64 r, .int .i64 rm, .int .i64 wm, .bool false, .int .i64 v, .bool sp, .bool dp] 29
  have c0 := X0.cell (i := 0) rfl
  have c11 := X0.cell (i := 11) rfl
  have c12 := X0.cell (i := 12) rfl
  have c13 := X0.cell (i := 13) rfl
  have c14 := X0.cell (i := 14) rfl
  have c15 := X0.cell (i := 15) rfl
  have Ess : (w.alloc (.cells #[.bool t, .int .i64 f0, .int .i64 f1, .int .i64 f2, .int .i64 f3, .int .i64 g0, .int .i64 g1, .int .i64 g2, .int .i64 g3, .int .i64 r, .int .i64 rm, .int .i64 wm, .bool false, .int .i64 v, .bool sp, .bool dp] 29)).rangeAt w.heap.size 0 [.bool t, .int .i64 f0, .int .i64 f1, .int .i64 f2, .int .i64 f3, .int .i64 g0, .int .i64 g1, .int .i64 g2, .int .i64 g3, .int .i64 r, .int .i64 rm, .int .i64 wm] := range_cut X0.1 0 12
  clear X0
  go_enter Try.func5, Try.ntmps5
  go_wp2_with fail
  have k_c0 := cell_regrown c0
  have k_c11 := cell_regrown c11
  have k_c12 := cell_regrown c12
  have k_c13 := cell_regrown c13
  have k_c14 := cell_regrown c14
  have k_c15 := cell_regrown c15
  refine wp_region_quiet_below (by kernel_rfl) (by kernel_rfl) ?_
  repeat (first | (go_big_quiet_want; refine quiet_eload _ _ rfl rk_ss rfl (fun W hW => rangeAt_on Ess (below_regrown' hW)) rfl ?_; go_simp; go_big_quiet_on) | go_big_quiet_step ((first | (go_at_call 13; exact Calls.regrown_of (passes_f t f0 f1 f2 f3 g0 g1 g2 g3 r rm wm v _)) | (go_at_call 14; exact Calls.regrown_of (rpasses_f t f0 f1 f2 f3 g0 g1 g2 g3 r rm wm v _)) | (go_at_call 10; exact Calls.regrown_of (example39_b _)))) | quiet_step ((first | (go_at_call 13; exact Calls.regrown_of (passes_f t f0 f1 f2 f3 g0 g1 g2 g3 r rm wm v _)) | (go_at_call 14; exact Calls.regrown_of (rpasses_f t f0 f1 f2 f3 g0 g1 g2 g3 r rm wm v _)) | (go_at_call 10; exact Calls.regrown_of (example39_b _)))))
  refine wpQuiet_nil ?_
  intro W hw'
  have B := below_regrown' hw'
  clear hw' k_c0 k_c11 k_c12 k_c13 k_c14 k_c15
  replace BB := bon BB B
  replace c0 := cell_below B c0
  replace c11 := cell_below B c11
  replace c12 := cell_below B c12
  replace c13 := cell_below B c13
  replace c14 := cell_below B c14
  replace c15 := cell_below B c15
  replace Ess := rangeAt_on Ess B
  go_wp2
  go_ret
  exact ⟨rfl, BB⟩

theorem spasses_walk (t : Bool) (f0 f1 f2 f3 g0 g1 g2 g3 r rm wm : Int) (fr : Bool) (v : Int) (sp dp : Bool) (w : World) : Calls Try.prog 5 #[.agg #[.bool t, .int .i64 f0, .int .i64 f1, .int .i64 f2, .int .i64 f3, .int .i64 g0, .int .i64 g1, .int .i64 g2, .int .i64 g3, .int .i64 r, .int .i64 rm, .int .i64 wm, .bool fr, .int .i64 v, .bool sp, .bool dp]] w fun e w' => e = .returned (.bool true) ∧ Below w.heap.size w w' := by
  cases fr
  · exact spasses_f t f0 f1 f2 f3 g0 g1 g2 g3 r rm wm v sp dp w
  · exact spasses_t t f0 f1 f2 f3 g0 g1 g2 g3 r rm wm v sp dp w

set_option maxRecDepth 100000 in
set_option maxHeartbeats 1000000 in
theorem supdate_walk (t : Bool) (f0 f1 f2 f3 g0 g1 g2 g3 r rm wm : Int) (fr : Bool) (v : Int) (sp dp : Bool) (w : World) : Calls Try.prog 6 #[.agg #[.bool t, .int .i64 f0, .int .i64 f1, .int .i64 f2, .int .i64 f3, .int .i64 g0, .int .i64 g1, .int .i64 g2, .int .i64 g3, .int .i64 r, .int .i64 rm, .int .i64 wm, .bool fr, .int .i64 v, .bool sp, .bool dp]] w fun e w' => e = .returned (.bool true) ∧ Below w.heap.size w w' := by
  have X0 := EBox.made w #[.bool t, .int .i64 f0, .int .i64 f1, .int .i64 f2, .int .i64 f3, .int .i64 g0, .int .i64 g1, .int .i64 g2, .int .i64 g3, .int .i64 r, .int .i64 rm, .int .i64 wm, .bool fr, .int .i64 v, .bool sp, .bool dp] 29
  have BB := box_below w #[.bool t, .int .i64 f0, .int .i64 f1, .int .i64 f2, .int .i64 f3, .int .i64 g0, .int .i64 g1, .int .i64 g2, .int .i64 g3, .int .i64 r, .int .i64 rm, .int .i64 wm, .bool fr, .int .i64 v, .bool sp, .bool dp] 29
  have c0 := X0.cell (i := 0) rfl
  have c11 := X0.cell (i := 11) rfl
  have c12 := X0.cell (i := 12) rfl
  have c13 := X0.cell (i := 13) rfl
  have c14 := X0.cell (i := 14) rfl
  have c15 := X0.cell (i := 15) rfl
  have Ess : (w.alloc (.cells #[.bool t, .int .i64 f0, .int .i64 f1, .int .i64 f2, .int .i64 f3, .int .i64 g0, .int .i64 g1, .int .i64 g2, .int .i64 g3, .int .i64 r, .int .i64 rm, .int .i64 wm, .bool fr, .int .i64 v, .bool sp, .bool dp] 29)).rangeAt w.heap.size 0 [.bool t, .int .i64 f0, .int .i64 f1, .int .i64 f2, .int .i64 f3, .int .i64 g0, .int .i64 g1, .int .i64 g2, .int .i64 g3, .int .i64 r, .int .i64 rm, .int .i64 wm] := range_cut X0.1 0 12
  clear X0
  go_enter Try.func6, Try.ntmps6
  go_wp2_with fail
  have k_c0 := cell_regrown c0
  have k_c11 := cell_regrown c11
  have k_c12 := cell_regrown c12
  have k_c13 := cell_regrown c13
  have k_c14 := cell_regrown c14
  have k_c15 := cell_regrown c15
  refine wp_region_quiet_below (by kernel_rfl) (by kernel_rfl) ?_
  repeat (first | (go_big_quiet_want; refine quiet_eload _ _ rfl rk_ss rfl (fun W hW => rangeAt_on Ess (below_regrown' hW)) rfl ?_; go_simp; go_big_quiet_on) | go_big_quiet_step ((first | (go_at_call 9; exact Calls.regrown_of (update_b t f0 f1 f2 f3 g0 g1 g2 g3 r rm wm fr sp dp v _)) | (go_at_call 15; exact Calls.regrown_of (rupdate_b t f0 f1 f2 f3 g0 g1 g2 g3 r rm wm fr sp dp v _)) | (go_at_call 10; exact Calls.regrown_of (example39_b _)))) | quiet_step ((first | (go_at_call 9; exact Calls.regrown_of (update_b t f0 f1 f2 f3 g0 g1 g2 g3 r rm wm fr sp dp v _)) | (go_at_call 15; exact Calls.regrown_of (rupdate_b t f0 f1 f2 f3 g0 g1 g2 g3 r rm wm fr sp dp v _)) | (go_at_call 10; exact Calls.regrown_of (example39_b _)))))
  refine wpQuiet_nil ?_
  intro W hw'
  have B := below_regrown' hw'
  clear hw' k_c0 k_c11 k_c12 k_c13 k_c14 k_c15
  replace BB := bon BB B
  replace c0 := cell_below B c0
  replace c11 := cell_below B c11
  replace c12 := cell_below B c12
  replace c13 := cell_below B c13
  replace c14 := cell_below B c14
  replace c15 := cell_below B c15
  replace Ess := rangeAt_on Ess B
  go_wp2
  go_ret
  exact ⟨rfl, BB⟩

set_option maxRecDepth 100000 in
set_option maxHeartbeats 1000000 in
theorem smasks_walk (t : Bool) (f0 f1 f2 f3 g0 g1 g2 g3 r rm wm : Int) (fr : Bool) (v : Int) (sp dp : Bool) (w : World) : Calls Try.prog 3 #[.agg #[.bool t, .int .i64 f0, .int .i64 f1, .int .i64 f2, .int .i64 f3, .int .i64 g0, .int .i64 g1, .int .i64 g2, .int .i64 g3, .int .i64 r, .int .i64 rm, .int .i64 wm, .bool fr, .int .i64 v, .bool sp, .bool dp]] w fun e w' => e = .returned (.bool true) ∧ Below w.heap.size w w' := by
  have X0 := EBox.made w #[.bool t, .int .i64 f0, .int .i64 f1, .int .i64 f2, .int .i64 f3, .int .i64 g0, .int .i64 g1, .int .i64 g2, .int .i64 g3, .int .i64 r, .int .i64 rm, .int .i64 wm, .bool fr, .int .i64 v, .bool sp, .bool dp] 29
  have BB := box_below w #[.bool t, .int .i64 f0, .int .i64 f1, .int .i64 f2, .int .i64 f3, .int .i64 g0, .int .i64 g1, .int .i64 g2, .int .i64 g3, .int .i64 r, .int .i64 rm, .int .i64 wm, .bool fr, .int .i64 v, .bool sp, .bool dp] 29
  have c0 := X0.cell (i := 0) rfl
  have c11 := X0.cell (i := 11) rfl
  have c12 := X0.cell (i := 12) rfl
  have c13 := X0.cell (i := 13) rfl
  have c14 := X0.cell (i := 14) rfl
  have c15 := X0.cell (i := 15) rfl
  have Ess : (w.alloc (.cells #[.bool t, .int .i64 f0, .int .i64 f1, .int .i64 f2, .int .i64 f3, .int .i64 g0, .int .i64 g1, .int .i64 g2, .int .i64 g3, .int .i64 r, .int .i64 rm, .int .i64 wm, .bool fr, .int .i64 v, .bool sp, .bool dp] 29)).rangeAt w.heap.size 0 [.bool t, .int .i64 f0, .int .i64 f1, .int .i64 f2, .int .i64 f3, .int .i64 g0, .int .i64 g1, .int .i64 g2, .int .i64 g3, .int .i64 r, .int .i64 rm, .int .i64 wm] := range_cut X0.1 0 12
  clear X0
  obtain ⟨q1, q2, q3⟩ := tmod256 v
  obtain ⟨q4, q5, q6⟩ := tmod256 wm
  have hm : 0 ≤ wm % 256 ∧ wm % 256 ≤ 255 := by omega
  have CU := Lib.hid (fun W => update_b t f0 f1 f2 f3 g0 g1 g2 g3 r rm wm fr sp dp v W)
  have hk := updv_keep t (pick fr sp dp f1 f2 f3 g1 g2 g3) v r wm
  obtain ⟨hb1, hb2⟩ := updv_bd t (pick fr sp dp f1 f2 f3 g1 g2 g3) v r wm
  have hf : Hid (t = false → updv t (pick fr sp dp f1 f2 f3 g1 g2 g3) v r wm = v % 256) := Lib.hid (fun h => by subst h; rfl)
  obtain ⟨n, hn⟩ : ∃ n, updv t (pick fr sp dp f1 f2 f3 g1 g2 g3) v r wm = n := ⟨_, rfl⟩
  rw [hn] at CU hk hb1 hb2 hf
  clear hn
  cases t
  · obtain rfl := hf.out rfl
    clear hf
    go_enter Try.func3, Try.ntmps3
    go_wp2_with (first
      | ((with_reducible refine eload12L rk_ss Ess ?_ ?_); focus rfl)
      | (first | (go_at_call 9; refine (CU.out _).mono ?_; rintro _ _ ⟨rfl, B⟩; replace BB := bon BB B; replace c0 := cell_below B c0; replace c11 := cell_below B c11; replace c12 := cell_below B c12; replace c13 := cell_below B c13; replace c14 := cell_below B c14; replace c15 := cell_below B c15; replace Ess := rangeAt_on Ess B) | (go_at_call 10; refine (example39_b _).mono ?_; rintro _ _ ⟨rfl, B⟩; replace BB := bon BB B; replace c0 := cell_below B c0; replace c11 := cell_below B c11; replace c12 := cell_below B c12; replace c13 := cell_below B c13; replace c14 := cell_below B c14; replace c15 := cell_below B c15; replace Ess := rangeAt_on Ess B)))
    go_ret
    exact ⟨ret_bool (by first | rfl | simp_all), BB⟩
  · clear hf
    go_enter Try.func3, Try.ntmps3
    go_wp2_with (first
      | ((with_reducible refine eload12L rk_ss Ess ?_ ?_); focus rfl)
      | (first | (go_at_call 9; refine (CU.out _).mono ?_; rintro _ _ ⟨rfl, B⟩; replace BB := bon BB B; replace c0 := cell_below B c0; replace c11 := cell_below B c11; replace c12 := cell_below B c12; replace c13 := cell_below B c13; replace c14 := cell_below B c14; replace c15 := cell_below B c15; replace Ess := rangeAt_on Ess B) | (go_at_call 10; refine (example39_b _).mono ?_; rintro _ _ ⟨rfl, B⟩; replace BB := bon BB B; replace c0 := cell_below B c0; replace c11 := cell_below B c11; replace c12 := cell_below B c12; replace c13 := cell_below B c13; replace c14 := cell_below B c14; replace c15 := cell_below B c15; replace Ess := rangeAt_on Ess B)))
    go_ret
    exact ⟨ret_bool (by first | rfl | simp_all), BB⟩

theorem fieldsSf : Try.prog.underlying 25 = some (.struct (Try.prog.fieldsOf 25)) := by kernel_rfl

set_option maxRecDepth 100000 in
set_option maxHeartbeats 1000000 in
theorem svalid_walk (op : Int) (t : Bool) (f0 f1 f2 f3 g0 g1 g2 g3 r rm wm : Int) (w : World) : Calls Try.prog 7 #[.int .i64 op, .agg #[.bool t, .int .i64 f0, .int .i64 f1, .int .i64 f2, .int .i64 f3, .int .i64 g0, .int .i64 g1, .int .i64 g2, .int .i64 g3, .int .i64 r, .int .i64 rm, .int .i64 wm]] w fun e w' => e = .returned (.bool true) ∧ Below w.heap.size w w' := by
  have X0 := EBox.made w #[.bool t, .int .i64 f0, .int .i64 f1, .int .i64 f2, .int .i64 f3, .int .i64 g0, .int .i64 g1, .int .i64 g2, .int .i64 g3, .int .i64 r, .int .i64 rm, .int .i64 wm] 27
  have BB := box_below w #[.bool t, .int .i64 f0, .int .i64 f1, .int .i64 f2, .int .i64 f3, .int .i64 g0, .int .i64 g1, .int .i64 g2, .int .i64 g3, .int .i64 r, .int .i64 rm, .int .i64 wm] 27
  have Ess : (w.alloc (.cells #[.bool t, .int .i64 f0, .int .i64 f1, .int .i64 f2, .int .i64 f3, .int .i64 g0, .int .i64 g1, .int .i64 g2, .int .i64 g3, .int .i64 r, .int .i64 rm, .int .i64 wm] 27)).rangeAt w.heap.size 0 [.bool t, .int .i64 f0, .int .i64 f1, .int .i64 f2, .int .i64 f3, .int .i64 g0, .int .i64 g1, .int .i64 g2, .int .i64 g3, .int .i64 r, .int .i64 rm, .int .i64 wm] := X0.1
  have Esf_0 : (w.alloc (.cells #[.bool t, .int .i64 f0, .int .i64 f1, .int .i64 f2, .int .i64 f3, .int .i64 g0, .int .i64 g1, .int .i64 g2, .int .i64 g3, .int .i64 r, .int .i64 rm, .int .i64 wm] 27)).rangeAt w.heap.size 1 [.int .i64 f0, .int .i64 f1, .int .i64 f2, .int .i64 f3] := range_cut X0.1 1 4
  have Esf_1 : (w.alloc (.cells #[.bool t, .int .i64 f0, .int .i64 f1, .int .i64 f2, .int .i64 f3, .int .i64 g0, .int .i64 g1, .int .i64 g2, .int .i64 g3, .int .i64 r, .int .i64 rm, .int .i64 wm] 27)).rangeAt w.heap.size 5 [.int .i64 g0, .int .i64 g1, .int .i64 g2, .int .i64 g3] := range_cut X0.1 5 4
  clear X0
  go_enter Try.func7, Try.ntmps7
  go_wp2_with fail
  refine wp_region_quiet_below (by kernel_rfl) (by kernel_rfl) ?_
  repeat (first | (go_big_quiet_want; refine quiet_eload _ _ rfl rk_ss rfl (fun W hW => rangeAt_on Ess (below_regrown' hW)) rfl ?_; go_simp; go_big_quiet_on) | (go_big_quiet_want; refine quiet_eload _ _ rfl rk_sf rfl (fun W hW => rangeAt_on Esf_0 (below_regrown' hW)) rfl ?_; go_simp; go_big_quiet_on) | (go_big_quiet_want; refine quiet_eload _ _ rfl rk_sf rfl (fun W hW => rangeAt_on Esf_1 (below_regrown' hW)) rfl ?_; go_simp; go_big_quiet_on) | go_big_quiet_step ((first | (go_at_call 16; with_reducible exact Calls.regrown_of (face_t t f0 f1 f2 f3 g0 g1 g2 g3 r rm wm _)) | (go_at_call 16; with_reducible exact Calls.regrown_of (face_f t f0 f1 f2 f3 g0 g1 g2 g3 r rm wm _)))) | quiet_step ((first | (go_at_call 16; with_reducible exact Calls.regrown_of (face_t t f0 f1 f2 f3 g0 g1 g2 g3 r rm wm _)) | (go_at_call 16; with_reducible exact Calls.regrown_of (face_f t f0 f1 f2 f3 g0 g1 g2 g3 r rm wm _)))))
  refine wpQuiet_nil ?_
  intro W hw'
  have B := below_regrown' hw'
  clear hw'
  replace BB := bon BB B
  replace Ess := rangeAt_on Ess B
  replace Esf_0 := rangeAt_on Esf_0 B
  replace Esf_1 := rangeAt_on Esf_1 B
  go_wp2_with fail
  refine wp_region_quiet_below (by kernel_rfl) (by kernel_rfl) ?_
  repeat (first | (go_big_quiet_want; refine quiet_eload _ _ rfl rk_ss rfl (fun W hW => rangeAt_on Ess (below_regrown' hW)) rfl ?_; go_simp; go_big_quiet_on) | (go_big_quiet_want; refine quiet_eload _ _ rfl rk_sf rfl (fun W hW => rangeAt_on Esf_0 (below_regrown' hW)) rfl ?_; go_simp; go_big_quiet_on) | (go_big_quiet_want; refine quiet_eload _ _ rfl rk_sf rfl (fun W hW => rangeAt_on Esf_1 (below_regrown' hW)) rfl ?_; go_simp; go_big_quiet_on) | go_big_quiet_step ((first | (go_at_call 17; exact Calls.regrown_of (vop_b op _)) | (go_at_call 18; exact Calls.regrown_of (rvop_b op _)) | (go_at_call 19; exact Calls.regrown_of (vstate_b t f0 f1 f2 f3 g0 g1 g2 g3 r rm wm _)) | (go_at_call 20; exact Calls.regrown_of (rvstate_b t f0 f1 f2 f3 g0 g1 g2 g3 r rm wm _)) | (go_at_call 10; exact Calls.regrown_of (example39_b _)))) | quiet_step ((first | (go_at_call 17; exact Calls.regrown_of (vop_b op _)) | (go_at_call 18; exact Calls.regrown_of (rvop_b op _)) | (go_at_call 19; exact Calls.regrown_of (vstate_b t f0 f1 f2 f3 g0 g1 g2 g3 r rm wm _)) | (go_at_call 20; exact Calls.regrown_of (rvstate_b t f0 f1 f2 f3 g0 g1 g2 g3 r rm wm _)) | (go_at_call 10; exact Calls.regrown_of (example39_b _)))))
  refine wpQuiet_nil ?_
  intro W hw'
  have B := below_regrown' hw'
  clear hw'
  replace BB := bon BB B
  replace Ess := rangeAt_on Ess B
  replace Esf_0 := rangeAt_on Esf_0 B
  replace Esf_1 := rangeAt_on Esf_1 B
  go_wp2
  go_ret
  exact ⟨rfl, BB⟩

set_option maxRecDepth 100000 in
set_option maxHeartbeats 2000000 in
theorem sinverse_case (op value ref x up dn iv sa sd n : Int) (h1 : Hid (aply 1 value ref = x)) (h7 : Hid (aply 7 x 0 = up)) (h8 : Hid (aply 8 x 0 = dn)) (h8u : Hid (aply 8 up 0 = x)) (h7d : Hid (aply 7 dn 0 = x)) (h6 : Hid (aply 6 x 0 = iv)) (h6i : Hid (aply 6 iv 0 = x)) (h4 : Hid (aply 4 x 0 = sa)) (h5 : Hid (aply 5 x 0 = sd)) (hop : Hid (aply op value ref = n)) (hn : 0 ≤ n ∧ n ≤ 255) (hs : sa = up ∨ (x = 255 ∧ sa = 255 ∧ up = 0)) (hd : sd = dn ∨ (x = 0 ∧ sd = 0 ∧ dn = 255)) (w : World) :
    Calls Try.prog 8 #[.int .i64 op, .int .i64 value, .int .i64 ref] w fun e w' => e = .returned (.bool true) ∧ Below w.heap.size w w' := by
  have BB := Below.refl w.heap.size w
  obtain ⟨hn1, hn2⟩ := hn
  rcases hs with rfl | ⟨rfl, rfl, rfl⟩ <;> rcases hd with rfl | ⟨h0, rfl, rfl⟩
  all_goals try subst h0
  all_goals try (exfalso; omega)
  all_goals
    go_enter Try.func8, Try.ntmps8
    go_wp2_with (first
      | (go_at_call 11; first
          | ((with_reducible refine (apply_at _ _ _ _ h1.out _).mono ?_); rintro _ _ ⟨rfl, B⟩; replace BB := bon BB B; clear B)
          | ((with_reducible refine (apply_at _ _ _ _ h7.out _).mono ?_); rintro _ _ ⟨rfl, B⟩; replace BB := bon BB B; clear B)
          | ((with_reducible refine (apply_at _ _ _ _ h8.out _).mono ?_); rintro _ _ ⟨rfl, B⟩; replace BB := bon BB B; clear B)
          | ((with_reducible refine (apply_at _ _ _ _ h8u.out _).mono ?_); rintro _ _ ⟨rfl, B⟩; replace BB := bon BB B; clear B)
          | ((with_reducible refine (apply_at _ _ _ _ h7d.out _).mono ?_); rintro _ _ ⟨rfl, B⟩; replace BB := bon BB B; clear B)
          | ((with_reducible refine (apply_at _ _ _ _ h6.out _).mono ?_); rintro _ _ ⟨rfl, B⟩; replace BB := bon BB B; clear B)
          | ((with_reducible refine (apply_at _ _ _ _ h6i.out _).mono ?_); rintro _ _ ⟨rfl, B⟩; replace BB := bon BB B; clear B)
          | ((with_reducible refine (apply_at _ _ _ _ h4.out _).mono ?_); rintro _ _ ⟨rfl, B⟩; replace BB := bon BB B; clear B)
          | ((with_reducible refine (apply_at _ _ _ _ h5.out _).mono ?_); rintro _ _ ⟨rfl, B⟩; replace BB := bon BB B; clear B)
          | ((with_reducible refine (apply_at _ _ _ _ hop.out _).mono ?_); rintro _ _ ⟨rfl, B⟩; replace BB := bon BB B; clear B))
      | (first | (go_at_call 10; refine (example39_b _).mono ?_; rintro _ _ ⟨rfl, B⟩; replace BB := bon BB B)))
    all_goals go_ret
    all_goals exact ⟨ret_bool (by first | rfl | simp_all | (simp <;> omega)), BB⟩

theorem sinverse_walk (op value ref : Int) (w : World) : Calls Try.prog 8 #[.int .i64 op, .int .i64 value, .int .i64 ref] w fun e w' => e = .returned (.bool true) ∧ Below w.heap.size w w' := by
  have hx : 0 ≤ value % 256 ∧ value % 256 ≤ 255 := by omega
  refine sinverse_case op value ref (value % 256) ((value % 256 + 1) % 256) ((value % 256 - 1) % 256) (255 - value % 256) (min (value % 256 + 1) 255) (max (value % 256 - 1) 0) (aply op value ref) (Lib.hid ?_) (Lib.hid ?_) (Lib.hid ?_) (Lib.hid ?_) (Lib.hid ?_) (Lib.hid ?_) (Lib.hid ?_) (Lib.hid ?_) (Lib.hid ?_) (Lib.hid rfl) (aply_bd _ _ _) (by omega) (by omega) w
  all_goals (simp [aply]; try omega)

end Go.Proofs.Ytigjamfnekaeeaa
