/- What Passes, Update of package stencil and of the reference return. -/
import Derived.Test.YtigjamfnekaeeaaST1
namespace Go.Proofs.Ytigjamfnekaeeaa
set_option linter.unusedSimpArgs false
open Go.RowKit Go.Sort Go.ChangeShapes Go.WideShapes
set_option linter.unusedVariables false

theorem fld_sf (W : World) (f0 f1 f2 f3 : Int) : (Instr.field 25 (.agg #[.int .i64 f0, .int .i64 f1, .int .i64 f2, .int .i64 f3]) 0).run Try.prog W = .ok (.int .i64 f0) W := by kernel_rfl

def passv (t : Bool) (c r v rm : Int) : Bool := if t = true then cmpv c (bits .and .i64 r (rm % 256)) (bits .and .i64 v (rm % 256)) else true

theorem face_t (t : Bool) (f0 f1 f2 f3 g0 g1 g2 g3 r rm wm : Int) (w : World) : Calls Try.prog 16 #[.agg #[.bool t, .int .i64 f0, .int .i64 f1, .int .i64 f2, .int .i64 f3, .int .i64 g0, .int .i64 g1, .int .i64 g2, .int .i64 g3, .int .i64 r, .int .i64 rm, .int .i64 wm], .bool true] w fun e w' => e = .returned (.agg #[.int .i64 f0, .int .i64 f1, .int .i64 f2, .int .i64 f3]) ∧ Below w.heap.size w w' := face_b t f0 f1 f2 f3 g0 g1 g2 g3 r rm wm true w

theorem face_f (t : Bool) (f0 f1 f2 f3 g0 g1 g2 g3 r rm wm : Int) (w : World) : Calls Try.prog 16 #[.agg #[.bool t, .int .i64 f0, .int .i64 f1, .int .i64 f2, .int .i64 f3, .int .i64 g0, .int .i64 g1, .int .i64 g2, .int .i64 g3, .int .i64 r, .int .i64 rm, .int .i64 wm], .bool false] w fun e w' => e = .returned (.agg #[.int .i64 g0, .int .i64 g1, .int .i64 g2, .int .i64 g3]) ∧ Below w.heap.size w w' := face_b t f0 f1 f2 f3 g0 g1 g2 g3 r rm wm false w

theorem rface_t (t : Bool) (f0 f1 f2 f3 g0 g1 g2 g3 r rm wm : Int) (w : World) : Calls Try.prog 25 #[.agg #[.bool t, .int .i64 f0, .int .i64 f1, .int .i64 f2, .int .i64 f3, .int .i64 g0, .int .i64 g1, .int .i64 g2, .int .i64 g3, .int .i64 r, .int .i64 rm, .int .i64 wm], .bool true] w fun e w' => e = .returned (.agg #[.int .i64 f0, .int .i64 f1, .int .i64 f2, .int .i64 f3]) ∧ Below w.heap.size w w' := rface_b t f0 f1 f2 f3 g0 g1 g2 g3 r rm wm true w

theorem rface_f (t : Bool) (f0 f1 f2 f3 g0 g1 g2 g3 r rm wm : Int) (w : World) : Calls Try.prog 25 #[.agg #[.bool t, .int .i64 f0, .int .i64 f1, .int .i64 f2, .int .i64 f3, .int .i64 g0, .int .i64 g1, .int .i64 g2, .int .i64 g3, .int .i64 r, .int .i64 rm, .int .i64 wm], .bool false] w fun e w' => e = .returned (.agg #[.int .i64 g0, .int .i64 g1, .int .i64 g2, .int .i64 g3]) ∧ Below w.heap.size w w' := rface_b t f0 f1 f2 f3 g0 g1 g2 g3 r rm wm false w

set_option maxRecDepth 100000 in
set_option maxHeartbeats 1000000 in
theorem passes_t (t : Bool) (f0 f1 f2 f3 g0 g1 g2 g3 r rm wm : Int) (v : Int) (w : World) : Calls Try.prog 13 #[.agg #[.bool t, .int .i64 f0, .int .i64 f1, .int .i64 f2, .int .i64 f3, .int .i64 g0, .int .i64 g1, .int .i64 g2, .int .i64 g3, .int .i64 r, .int .i64 rm, .int .i64 wm], .bool true, .int .i64 v] w fun e w' => e = .returned (.bool (passv t f0 r v rm)) ∧ Below w.heap.size w w' := by
  have X0 := EBox.made w #[.bool t, .int .i64 f0, .int .i64 f1, .int .i64 f2, .int .i64 f3, .int .i64 g0, .int .i64 g1, .int .i64 g2, .int .i64 g3, .int .i64 r, .int .i64 rm, .int .i64 wm] 27
  have BB := box_below w #[.bool t, .int .i64 f0, .int .i64 f1, .int .i64 f2, .int .i64 f3, .int .i64 g0, .int .i64 g1, .int .i64 g2, .int .i64 g3, .int .i64 r, .int .i64 rm, .int .i64 wm] 27
  have c0 := X0.cell (i := 0) rfl
  have c9 := X0.cell (i := 9) rfl
  have c10 := X0.cell (i := 10) rfl
  have c11 := X0.cell (i := 11) rfl
  have FL := fun W => fld_sf W f0 f1 f2 f3
  have GL := fun W => fld_sf W g0 g1 g2 g3
  have Ess : (w.alloc (.cells #[.bool t, .int .i64 f0, .int .i64 f1, .int .i64 f2, .int .i64 f3, .int .i64 g0, .int .i64 g1, .int .i64 g2, .int .i64 g3, .int .i64 r, .int .i64 rm, .int .i64 wm] 27)).rangeAt w.heap.size 0 [.bool t, .int .i64 f0, .int .i64 f1, .int .i64 f2, .int .i64 f3, .int .i64 g0, .int .i64 g1, .int .i64 g2, .int .i64 g3, .int .i64 r, .int .i64 rm, .int .i64 wm] := X0.1
  clear X0
  cases t
  · go_enter Try.func13, Try.ntmps13
    go_wp2
    go_ret
    exact ⟨rfl, BB⟩
  · go_enter Try.func13, Try.ntmps13
    go_wp2_with (first | (go_at_call 21; refine (reduced_b _ _).mono ?_; rintro _ _ ⟨rfl, B⟩; replace BB := bon BB B; replace c0 := cell_below B c0; replace c9 := cell_below B c9; replace c10 := cell_below B c10; replace c11 := cell_below B c11; replace Ess := rangeAt_on Ess B))
    have k_c0 := cell_regrown c0
    have k_c9 := cell_regrown c9
    have k_c10 := cell_regrown c10
    have k_c11 := cell_regrown c11
    refine wp_region_quiet_below (by kernel_rfl) (by kernel_rfl) ?_
    repeat (first | (go_big_quiet_want; refine quiet_eload _ _ rfl rk_ss rfl (fun W hW => rangeAt_on Ess (below_regrown' hW)) rfl ?_; go_simp; go_big_quiet_on) | go_big_quiet_step ((first | (go_at_call 16; exact Calls.regrown_of (face_t true f0 f1 f2 f3 g0 g1 g2 g3 r rm wm _)) | (go_at_call 23; exact Calls.regrown_of (compare_b _ _ _ _)))) | quiet_step ((first | (go_at_call 16; exact Calls.regrown_of (face_t true f0 f1 f2 f3 g0 g1 g2 g3 r rm wm _)) | (go_at_call 23; exact Calls.regrown_of (compare_b _ _ _ _)))))
    refine wpQuiet_nil ?_
    intro W hw'
    have B := below_regrown' hw'
    clear hw' k_c0 k_c9 k_c10 k_c11
    replace BB := bon BB B
    replace c0 := cell_below B c0
    replace c9 := cell_below B c9
    replace c10 := cell_below B c10
    replace c11 := cell_below B c11
    replace Ess := rangeAt_on Ess B
    go_wp2
    go_ret
    exact ⟨rfl, BB⟩

set_option maxRecDepth 100000 in
set_option maxHeartbeats 1000000 in
theorem rpasses_t (t : Bool) (f0 f1 f2 f3 g0 g1 g2 g3 r rm wm : Int) (v : Int) (w : World) : Calls Try.prog 14 #[.agg #[.bool t, .int .i64 f0, .int .i64 f1, .int .i64 f2, .int .i64 f3, .int .i64 g0, .int .i64 g1, .int .i64 g2, .int .i64 g3, .int .i64 r, .int .i64 rm, .int .i64 wm], .bool true, .int .i64 v] w fun e w' => e = .returned (.bool (passv t f0 r v rm)) ∧ Below w.heap.size w w' := by
  have X0 := EBox.made w #[.bool t, .int .i64 f0, .int .i64 f1, .int .i64 f2, .int .i64 f3, .int .i64 g0, .int .i64 g1, .int .i64 g2, .int .i64 g3, .int .i64 r, .int .i64 rm, .int .i64 wm] 27
  have BB := box_below w #[.bool t, .int .i64 f0, .int .i64 f1, .int .i64 f2, .int .i64 f3, .int .i64 g0, .int .i64 g1, .int .i64 g2, .int .i64 g3, .int .i64 r, .int .i64 rm, .int .i64 wm] 27
  have c0 := X0.cell (i := 0) rfl
  have c9 := X0.cell (i := 9) rfl
  have c10 := X0.cell (i := 10) rfl
  have c11 := X0.cell (i := 11) rfl
  have FL := fun W => fld_sf W f0 f1 f2 f3
  have GL := fun W => fld_sf W g0 g1 g2 g3
  have Ess : (w.alloc (.cells #[.bool t, .int .i64 f0, .int .i64 f1, .int .i64 f2, .int .i64 f3, .int .i64 g0, .int .i64 g1, .int .i64 g2, .int .i64 g3, .int .i64 r, .int .i64 rm, .int .i64 wm] 27)).rangeAt w.heap.size 0 [.bool t, .int .i64 f0, .int .i64 f1, .int .i64 f2, .int .i64 f3, .int .i64 g0, .int .i64 g1, .int .i64 g2, .int .i64 g3, .int .i64 r, .int .i64 rm, .int .i64 wm] := X0.1
  clear X0
  cases t
  all_goals
    go_enter Try.func14, Try.ntmps14
    go_wp2_with (first | (go_at_call 22; refine (rreduced_b _ _).mono ?_; rintro _ _ ⟨rfl, B⟩; replace BB := bon BB B; replace c0 := cell_below B c0; replace c9 := cell_below B c9; replace c10 := cell_below B c10; replace c11 := cell_below B c11; replace Ess := rangeAt_on Ess B))
    have k_c0 := cell_regrown c0
    have k_c9 := cell_regrown c9
    have k_c10 := cell_regrown c10
    have k_c11 := cell_regrown c11
    refine wp_region_quiet_below (by kernel_rfl) (by kernel_rfl) ?_
    repeat (first | (go_big_quiet_want; refine quiet_eload _ _ rfl rk_ss rfl (fun W hW => rangeAt_on Ess (below_regrown' hW)) rfl ?_; go_simp; go_big_quiet_on) | go_big_quiet_step ((first | (go_at_call 25; exact Calls.regrown_of (rface_t true f0 f1 f2 f3 g0 g1 g2 g3 r rm wm _)) | (go_at_call 22; exact Calls.regrown_of (rreduced_b _ _)) | (go_at_call 24; exact Calls.regrown_of (rcompare_b _ _ _ _)))) | quiet_step ((first | (go_at_call 25; exact Calls.regrown_of (rface_t true f0 f1 f2 f3 g0 g1 g2 g3 r rm wm _)) | (go_at_call 22; exact Calls.regrown_of (rreduced_b _ _)) | (go_at_call 24; exact Calls.regrown_of (rcompare_b _ _ _ _)))))
    refine wpQuiet_nil ?_
    intro W hw'
    have B := below_regrown' hw'
    clear hw' k_c0 k_c9 k_c10 k_c11
    replace BB := bon BB B
    replace c0 := cell_below B c0
    replace c9 := cell_below B c9
    replace c10 := cell_below B c10
    replace c11 := cell_below B c11
    replace Ess := rangeAt_on Ess B
    go_wp2
    go_ret
    exact ⟨ret_bool (by first | rfl | (unfold passv; rw [if_pos rfl, and_mod _ _ (by omega) (by omega), and_mod _ _ (by omega) (by omega)])), BB⟩

set_option maxRecDepth 100000 in
set_option maxHeartbeats 1000000 in
theorem passes_f (t : Bool) (f0 f1 f2 f3 g0 g1 g2 g3 r rm wm : Int) (v : Int) (w : World) : Calls Try.prog 13 #[.agg #[.bool t, .int .i64 f0, .int .i64 f1, .int .i64 f2, .int .i64 f3, .int .i64 g0, .int .i64 g1, .int .i64 g2, .int .i64 g3, .int .i64 r, .int .i64 rm, .int .i64 wm], .bool false, .int .i64 v] w fun e w' => e = .returned (.bool (passv t g0 r v rm)) ∧ Below w.heap.size w w' := by
  have X0 := EBox.made w #[.bool t, .int .i64 f0, .int .i64 f1, .int .i64 f2, .int .i64 f3, .int .i64 g0, .int .i64 g1, .int .i64 g2, .int .i64 g3, .int .i64 r, .int .i64 rm, .int .i64 wm] 27
  have BB := box_below w #[.bool t, .int .i64 f0, .int .i64 f1, .int .i64 f2, .int .i64 f3, .int .i64 g0, .int .i64 g1, .int .i64 g2, .int .i64 g3, .int .i64 r, .int .i64 rm, .int .i64 wm] 27
  have c0 := X0.cell (i := 0) rfl
  have c9 := X0.cell (i := 9) rfl
  have c10 := X0.cell (i := 10) rfl
  have c11 := X0.cell (i := 11) rfl
  have FL := fun W => fld_sf W f0 f1 f2 f3
  have GL := fun W => fld_sf W g0 g1 g2 g3
  have Ess : (w.alloc (.cells #[.bool t, .int .i64 f0, .int .i64 f1, .int .i64 f2, .int .i64 f3, .int .i64 g0, .int .i64 g1, .int .i64 g2, .int .i64 g3, .int .i64 r, .int .i64 rm, .int .i64 wm] 27)).rangeAt w.heap.size 0 [.bool t, .int .i64 f0, .int .i64 f1, .int .i64 f2, .int .i64 f3, .int .i64 g0, .int .i64 g1, .int .i64 g2, .int .i64 g3, .int .i64 r, .int .i64 rm, .int .i64 wm] := X0.1
  clear X0
  cases t
  · go_enter Try.func13, Try.ntmps13
    go_wp2
    go_ret
    exact ⟨rfl, BB⟩
  · go_enter Try.func13, Try.ntmps13
    go_wp2_with (first | (go_at_call 21; refine (reduced_b _ _).mono ?_; rintro _ _ ⟨rfl, B⟩; replace BB := bon BB B; replace c0 := cell_below B c0; replace c9 := cell_below B c9; replace c10 := cell_below B c10; replace c11 := cell_below B c11; replace Ess := rangeAt_on Ess B))
    have k_c0 := cell_regrown c0
    have k_c9 := cell_regrown c9
    have k_c10 := cell_regrown c10
    have k_c11 := cell_regrown c11
    refine wp_region_quiet_below (by kernel_rfl) (by kernel_rfl) ?_
    repeat (first | (go_big_quiet_want; refine quiet_eload _ _ rfl rk_ss rfl (fun W hW => rangeAt_on Ess (below_regrown' hW)) rfl ?_; go_simp; go_big_quiet_on) | go_big_quiet_step ((first | (go_at_call 16; exact Calls.regrown_of (face_f true f0 f1 f2 f3 g0 g1 g2 g3 r rm wm _)) | (go_at_call 23; exact Calls.regrown_of (compare_b _ _ _ _)))) | quiet_step ((first | (go_at_call 16; exact Calls.regrown_of (face_f true f0 f1 f2 f3 g0 g1 g2 g3 r rm wm _)) | (go_at_call 23; exact Calls.regrown_of (compare_b _ _ _ _)))))
    refine wpQuiet_nil ?_
    intro W hw'
    have B := below_regrown' hw'
    clear hw' k_c0 k_c9 k_c10 k_c11
    replace BB := bon BB B
    replace c0 := cell_below B c0
    replace c9 := cell_below B c9
    replace c10 := cell_below B c10
    replace c11 := cell_below B c11
    replace Ess := rangeAt_on Ess B
    go_wp2
    go_ret
    exact ⟨rfl, BB⟩

set_option maxRecDepth 100000 in
set_option maxHeartbeats 1000000 in
theorem rpasses_f (t : Bool) (f0 f1 f2 f3 g0 g1 g2 g3 r rm wm : Int) (v : Int) (w : World) : Calls Try.prog 14 #[.agg #[.bool t, .int .i64 f0, .int .i64 f1, .int .i64 f2, .int .i64 f3, .int .i64 g0, .int .i64 g1, .int .i64 g2, .int .i64 g3, .int .i64 r, .int .i64 rm, .int .i64 wm], .bool false, .int .i64 v] w fun e w' => e = .returned (.bool (passv t g0 r v rm)) ∧ Below w.heap.size w w' := by
  have X0 := EBox.made w #[.bool t, .int .i64 f0, .int .i64 f1, .int .i64 f2, .int .i64 f3, .int .i64 g0, .int .i64 g1, .int .i64 g2, .int .i64 g3, .int .i64 r, .int .i64 rm, .int .i64 wm] 27
  have BB := box_below w #[.bool t, .int .i64 f0, .int .i64 f1, .int .i64 f2, .int .i64 f3, .int .i64 g0, .int .i64 g1, .int .i64 g2, .int .i64 g3, .int .i64 r, .int .i64 rm, .int .i64 wm] 27
  have c0 := X0.cell (i := 0) rfl
  have c9 := X0.cell (i := 9) rfl
  have c10 := X0.cell (i := 10) rfl
  have c11 := X0.cell (i := 11) rfl
  have FL := fun W => fld_sf W f0 f1 f2 f3
  have GL := fun W => fld_sf W g0 g1 g2 g3
  have Ess : (w.alloc (.cells #[.bool t, .int .i64 f0, .int .i64 f1, .int .i64 f2, .int .i64 f3, .int .i64 g0, .int .i64 g1, .int .i64 g2, .int .i64 g3, .int .i64 r, .int .i64 rm, .int .i64 wm] 27)).rangeAt w.heap.size 0 [.bool t, .int .i64 f0, .int .i64 f1, .int .i64 f2, .int .i64 f3, .int .i64 g0, .int .i64 g1, .int .i64 g2, .int .i64 g3, .int .i64 r, .int .i64 rm, .int .i64 wm] := X0.1
  clear X0
  cases t
  all_goals
    go_enter Try.func14, Try.ntmps14
    go_wp2_with (first | (go_at_call 22; refine (rreduced_b _ _).mono ?_; rintro _ _ ⟨rfl, B⟩; replace BB := bon BB B; replace c0 := cell_below B c0; replace c9 := cell_below B c9; replace c10 := cell_below B c10; replace c11 := cell_below B c11; replace Ess := rangeAt_on Ess B))
    have k_c0 := cell_regrown c0
    have k_c9 := cell_regrown c9
    have k_c10 := cell_regrown c10
    have k_c11 := cell_regrown c11
    refine wp_region_quiet_below (by kernel_rfl) (by kernel_rfl) ?_
    repeat (first | (go_big_quiet_want; refine quiet_eload _ _ rfl rk_ss rfl (fun W hW => rangeAt_on Ess (below_regrown' hW)) rfl ?_; go_simp; go_big_quiet_on) | go_big_quiet_step ((first | (go_at_call 25; exact Calls.regrown_of (rface_f true f0 f1 f2 f3 g0 g1 g2 g3 r rm wm _)) | (go_at_call 22; exact Calls.regrown_of (rreduced_b _ _)) | (go_at_call 24; exact Calls.regrown_of (rcompare_b _ _ _ _)))) | quiet_step ((first | (go_at_call 25; exact Calls.regrown_of (rface_f true f0 f1 f2 f3 g0 g1 g2 g3 r rm wm _)) | (go_at_call 22; exact Calls.regrown_of (rreduced_b _ _)) | (go_at_call 24; exact Calls.regrown_of (rcompare_b _ _ _ _)))))
    refine wpQuiet_nil ?_
    intro W hw'
    have B := below_regrown' hw'
    clear hw' k_c0 k_c9 k_c10 k_c11
    replace BB := bon BB B
    replace c0 := cell_below B c0
    replace c9 := cell_below B c9
    replace c10 := cell_below B c10
    replace c11 := cell_below B c11
    replace Ess := rangeAt_on Ess B
    go_wp2
    go_ret
    exact ⟨ret_bool (by first | rfl | (unfold passv; rw [if_pos rfl, and_mod _ _ (by omega) (by omega), and_mod _ _ (by omega) (by omega)])), BB⟩

set_option maxRecDepth 100000 in
set_option maxHeartbeats 2000000 in
theorem update_b (t : Bool) (f0 f1 f2 f3 g0 g1 g2 g3 r rm wm : Int) (fr sp dp : Bool) (v : Int) (w : World) : Calls Try.prog 9 #[.agg #[.bool t, .int .i64 f0, .int .i64 f1, .int .i64 f2, .int .i64 f3, .int .i64 g0, .int .i64 g1, .int .i64 g2, .int .i64 g3, .int .i64 r, .int .i64 rm, .int .i64 wm], .bool fr, .int .i64 v, .bool sp, .bool dp] w fun e w' => e = .returned (.int .i64 (updv t (pick fr sp dp f1 f2 f3 g1 g2 g3) v r wm)) ∧ Below w.heap.size w w' := by
  have X0 := EBox.made w #[.bool t, .int .i64 f0, .int .i64 f1, .int .i64 f2, .int .i64 f3, .int .i64 g0, .int .i64 g1, .int .i64 g2, .int .i64 g3, .int .i64 r, .int .i64 rm, .int .i64 wm] 27
  have BB := box_below w #[.bool t, .int .i64 f0, .int .i64 f1, .int .i64 f2, .int .i64 f3, .int .i64 g0, .int .i64 g1, .int .i64 g2, .int .i64 g3, .int .i64 r, .int .i64 rm, .int .i64 wm] 27
  have c0 := X0.cell (i := 0) rfl
  have c9 := X0.cell (i := 9) rfl
  have c11 := X0.cell (i := 11) rfl
  have Ess : (w.alloc (.cells #[.bool t, .int .i64 f0, .int .i64 f1, .int .i64 f2, .int .i64 f3, .int .i64 g0, .int .i64 g1, .int .i64 g2, .int .i64 g3, .int .i64 r, .int .i64 rm, .int .i64 wm] 27)).rangeAt w.heap.size 0 [.bool t, .int .i64 f0, .int .i64 f1, .int .i64 f2, .int .i64 f3, .int .i64 g0, .int .i64 g1, .int .i64 g2, .int .i64 g3, .int .i64 r, .int .i64 rm, .int .i64 wm] := X0.1
  have hm : 0 ≤ wm % 256 ∧ wm % 256 ≤ 255 := by omega
  clear X0
  cases t
  · go_enter Try.func9, Try.ntmps9
    go_wp2_with (first | (go_at_call 21; refine (reduced_b _ _).mono ?_; rintro _ _ ⟨rfl, B⟩; replace BB := bon BB B; replace c0 := cell_below B c0; replace c9 := cell_below B c9; replace c11 := cell_below B c11; replace Ess := rangeAt_on Ess B))
    go_ret
    exact ⟨rfl, BB⟩
  cases fr
  · cases sp <;> cases dp
    all_goals
      go_enter Try.func9, Try.ntmps9
      go_wp2_with (first
        | (first | (go_at_call 21; refine (reduced_b _ _).mono ?_; rintro _ _ ⟨rfl, B⟩; replace BB := bon BB B; replace c0 := cell_below B c0; replace c9 := cell_below B c9; replace c11 := cell_below B c11; replace Ess := rangeAt_on Ess B) | (go_at_call 11; refine (apply_b _ _ _ _).mono ?_; rintro _ _ ⟨rfl, B⟩; replace BB := bon BB B; replace c0 := cell_below B c0; replace c9 := cell_below B c9; replace c11 := cell_below B c11; replace Ess := rangeAt_on Ess B))
        | ((with_reducible refine eload12L rk_ss Ess ?_ ?_); focus rfl)
        | (go_at_call 16; (with_reducible refine (face_f true f0 f1 f2 f3 g0 g1 g2 g3 r rm wm _).mono ?_); rintro _ W1 ⟨rfl, B⟩; (replace BB := bon BB B; replace c0 := cell_below B c0; replace c9 := cell_below B c9; replace c11 := cell_below B c11; replace Ess := rangeAt_on Ess B); clear B; replace c0 := cell_below (box_below W1 #[.int .i64 g0, .int .i64 g1, .int .i64 g2, .int .i64 g3] 25) c0; replace c9 := cell_below (box_below W1 #[.int .i64 g0, .int .i64 g1, .int .i64 g2, .int .i64 g3] 25) c9; replace c11 := cell_below (box_below W1 #[.int .i64 g0, .int .i64 g1, .int .i64 g2, .int .i64 g3] 25) c11; replace Ess := rangeAt_on Ess (box_below W1 #[.int .i64 g0, .int .i64 g1, .int .i64 g2, .int .i64 g3] 25); replace BB := bon BB (box_below W1 #[.int .i64 g0, .int .i64 g1, .int .i64 g2, .int .i64 g3] 25)))
      go_ret
      exact ⟨rfl, BB⟩
  · cases sp <;> cases dp
    all_goals
      go_enter Try.func9, Try.ntmps9
      go_wp2_with (first
        | (first | (go_at_call 21; refine (reduced_b _ _).mono ?_; rintro _ _ ⟨rfl, B⟩; replace BB := bon BB B; replace c0 := cell_below B c0; replace c9 := cell_below B c9; replace c11 := cell_below B c11; replace Ess := rangeAt_on Ess B) | (go_at_call 11; refine (apply_b _ _ _ _).mono ?_; rintro _ _ ⟨rfl, B⟩; replace BB := bon BB B; replace c0 := cell_below B c0; replace c9 := cell_below B c9; replace c11 := cell_below B c11; replace Ess := rangeAt_on Ess B))
        | ((with_reducible refine eload12L rk_ss Ess ?_ ?_); focus rfl)
        | (go_at_call 16; (with_reducible refine (face_t true f0 f1 f2 f3 g0 g1 g2 g3 r rm wm _).mono ?_); rintro _ W1 ⟨rfl, B⟩; (replace BB := bon BB B; replace c0 := cell_below B c0; replace c9 := cell_below B c9; replace c11 := cell_below B c11; replace Ess := rangeAt_on Ess B); clear B; replace c0 := cell_below (box_below W1 #[.int .i64 f0, .int .i64 f1, .int .i64 f2, .int .i64 f3] 25) c0; replace c9 := cell_below (box_below W1 #[.int .i64 f0, .int .i64 f1, .int .i64 f2, .int .i64 f3] 25) c9; replace c11 := cell_below (box_below W1 #[.int .i64 f0, .int .i64 f1, .int .i64 f2, .int .i64 f3] 25) c11; replace Ess := rangeAt_on Ess (box_below W1 #[.int .i64 f0, .int .i64 f1, .int .i64 f2, .int .i64 f3] 25); replace BB := bon BB (box_below W1 #[.int .i64 f0, .int .i64 f1, .int .i64 f2, .int .i64 f3] 25)))
      go_ret
      exact ⟨rfl, BB⟩

set_option maxRecDepth 100000 in
set_option maxHeartbeats 2000000 in
theorem rupdate_b (t : Bool) (f0 f1 f2 f3 g0 g1 g2 g3 r rm wm : Int) (fr sp dp : Bool) (v : Int) (w : World) : Calls Try.prog 15 #[.agg #[.bool t, .int .i64 f0, .int .i64 f1, .int .i64 f2, .int .i64 f3, .int .i64 g0, .int .i64 g1, .int .i64 g2, .int .i64 g3, .int .i64 r, .int .i64 rm, .int .i64 wm], .bool fr, .int .i64 v, .bool sp, .bool dp] w fun e w' => e = .returned (.int .i64 (updv t (pick fr sp dp f1 f2 f3 g1 g2 g3) v r wm)) ∧ Below w.heap.size w w' := by
  have X0 := EBox.made w #[.bool t, .int .i64 f0, .int .i64 f1, .int .i64 f2, .int .i64 f3, .int .i64 g0, .int .i64 g1, .int .i64 g2, .int .i64 g3, .int .i64 r, .int .i64 rm, .int .i64 wm] 27
  have BB := box_below w #[.bool t, .int .i64 f0, .int .i64 f1, .int .i64 f2, .int .i64 f3, .int .i64 g0, .int .i64 g1, .int .i64 g2, .int .i64 g3, .int .i64 r, .int .i64 rm, .int .i64 wm] 27
  have c0 := X0.cell (i := 0) rfl
  have c9 := X0.cell (i := 9) rfl
  have c11 := X0.cell (i := 11) rfl
  have Ess : (w.alloc (.cells #[.bool t, .int .i64 f0, .int .i64 f1, .int .i64 f2, .int .i64 f3, .int .i64 g0, .int .i64 g1, .int .i64 g2, .int .i64 g3, .int .i64 r, .int .i64 rm, .int .i64 wm] 27)).rangeAt w.heap.size 0 [.bool t, .int .i64 f0, .int .i64 f1, .int .i64 f2, .int .i64 f3, .int .i64 g0, .int .i64 g1, .int .i64 g2, .int .i64 g3, .int .i64 r, .int .i64 rm, .int .i64 wm] := X0.1
  have hm : 0 ≤ wm % 256 ∧ wm % 256 ≤ 255 := by omega
  clear X0
  cases t
  · go_enter Try.func15, Try.ntmps15
    go_wp2_with (first | (go_at_call 22; refine (rreduced_b _ _).mono ?_; rintro _ _ ⟨rfl, B⟩; replace BB := bon BB B; replace c0 := cell_below B c0; replace c9 := cell_below B c9; replace c11 := cell_below B c11; replace Ess := rangeAt_on Ess B))
    go_ret
    exact ⟨rfl, BB⟩
  cases fr
  · cases sp <;> cases dp
    all_goals
      go_enter Try.func15, Try.ntmps15
      go_wp2_with (first
        | (first | (go_at_call 22; refine (rreduced_b _ _).mono ?_; rintro _ _ ⟨rfl, B⟩; replace BB := bon BB B; replace c0 := cell_below B c0; replace c9 := cell_below B c9; replace c11 := cell_below B c11; replace Ess := rangeAt_on Ess B) | (go_at_call 12; refine (rapply_b _ _ _ _).mono ?_; rintro _ _ ⟨rfl, B⟩; replace BB := bon BB B; replace c0 := cell_below B c0; replace c9 := cell_below B c9; replace c11 := cell_below B c11; replace Ess := rangeAt_on Ess B))
        | ((with_reducible refine eload12L rk_ss Ess ?_ ?_); focus rfl)
        | (go_at_call 25; (with_reducible refine (rface_f true f0 f1 f2 f3 g0 g1 g2 g3 r rm wm _).mono ?_); rintro _ W1 ⟨rfl, B⟩; (replace BB := bon BB B; replace c0 := cell_below B c0; replace c9 := cell_below B c9; replace c11 := cell_below B c11; replace Ess := rangeAt_on Ess B); clear B; replace c0 := cell_below (box_below W1 #[.int .i64 g0, .int .i64 g1, .int .i64 g2, .int .i64 g3] 25) c0; replace c9 := cell_below (box_below W1 #[.int .i64 g0, .int .i64 g1, .int .i64 g2, .int .i64 g3] 25) c9; replace c11 := cell_below (box_below W1 #[.int .i64 g0, .int .i64 g1, .int .i64 g2, .int .i64 g3] 25) c11; replace Ess := rangeAt_on Ess (box_below W1 #[.int .i64 g0, .int .i64 g1, .int .i64 g2, .int .i64 g3] 25); replace BB := bon BB (box_below W1 #[.int .i64 g0, .int .i64 g1, .int .i64 g2, .int .i64 g3] 25)))
      go_ret
      exact ⟨rfl, BB⟩
  · cases sp <;> cases dp
    all_goals
      go_enter Try.func15, Try.ntmps15
      go_wp2_with (first
        | (first | (go_at_call 22; refine (rreduced_b _ _).mono ?_; rintro _ _ ⟨rfl, B⟩; replace BB := bon BB B; replace c0 := cell_below B c0; replace c9 := cell_below B c9; replace c11 := cell_below B c11; replace Ess := rangeAt_on Ess B) | (go_at_call 12; refine (rapply_b _ _ _ _).mono ?_; rintro _ _ ⟨rfl, B⟩; replace BB := bon BB B; replace c0 := cell_below B c0; replace c9 := cell_below B c9; replace c11 := cell_below B c11; replace Ess := rangeAt_on Ess B))
        | ((with_reducible refine eload12L rk_ss Ess ?_ ?_); focus rfl)
        | (go_at_call 25; (with_reducible refine (rface_t true f0 f1 f2 f3 g0 g1 g2 g3 r rm wm _).mono ?_); rintro _ W1 ⟨rfl, B⟩; (replace BB := bon BB B; replace c0 := cell_below B c0; replace c9 := cell_below B c9; replace c11 := cell_below B c11; replace Ess := rangeAt_on Ess B); clear B; replace c0 := cell_below (box_below W1 #[.int .i64 f0, .int .i64 f1, .int .i64 f2, .int .i64 f3] 25) c0; replace c9 := cell_below (box_below W1 #[.int .i64 f0, .int .i64 f1, .int .i64 f2, .int .i64 f3] 25) c9; replace c11 := cell_below (box_below W1 #[.int .i64 f0, .int .i64 f1, .int .i64 f2, .int .i64 f3] 25) c11; replace Ess := rangeAt_on Ess (box_below W1 #[.int .i64 f0, .int .i64 f1, .int .i64 f2, .int .i64 f3] 25); replace BB := bon BB (box_below W1 #[.int .i64 f0, .int .i64 f1, .int .i64 f2, .int .i64 f3] 25)))
      go_ret
      exact ⟨rfl, BB⟩

end Go.Proofs.Ytigjamfnekaeeaa
