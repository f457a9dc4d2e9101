/- The example of stage 40, and the walk of BlendCombines. -/
import Derived.Test.YtainijafljpiaaaBL4
namespace Go.Proofs.Ytainijafljpiaaa
set_option linter.unusedSimpArgs false
open Go.RowKit Go.Sort Go.ChangeShapes Go.WideShapes
set_option linter.unusedVariables false

theorem factor_at (f s0 s1 s2 s3 t0 t1 t2 t3 v0 v1 v2 v3 : Int) (h0 : facv f s0 s3 t0 t3 = v0) (h1 : facv f s1 s3 t1 t3 = v1) (h2 : facv f s2 s3 t2 t3 = v2) (h3 : facv f s3 s3 t3 t3 = v3) (w : World) : Calls Try.prog 8 #[.int .i64 f, .agg #[.int .i64 s0, .int .i64 s1, .int .i64 s2, .int .i64 s3], .agg #[.int .i64 t0, .int .i64 t1, .int .i64 t2, .int .i64 t3]] w fun e w' => e = .returned (.agg #[.int .i64 v0, .int .i64 v1, .int .i64 v2, .int .i64 v3]) ∧ Below w.heap.size w w' := by
  subst h0 h1 h2 h3
  exact factor_b f s0 s1 s2 s3 t0 t1 t2 t3 w

theorem combined_at (op s0 s1 s2 s3 f0 f1 f2 f3 t0 t1 t2 t3 g0 g1 g2 g3 v0 v1 v2 v3 : Int) (h0 : combv op s0 f0 t0 g0 = v0) (h1 : combv op s1 f1 t1 g1 = v1) (h2 : combv op s2 f2 t2 g2 = v2) (h3 : combv op s3 f3 t3 g3 = v3) (w : World) : Calls Try.prog 25 #[.int .i64 op, .agg #[.int .i64 s0, .int .i64 s1, .int .i64 s2, .int .i64 s3], .agg #[.int .i64 f0, .int .i64 f1, .int .i64 f2, .int .i64 f3], .agg #[.int .i64 t0, .int .i64 t1, .int .i64 t2, .int .i64 t3], .agg #[.int .i64 g0, .int .i64 g1, .int .i64 g2, .int .i64 g3]] w fun e w' => e = .returned (.agg #[.int .i64 v0, .int .i64 v1, .int .i64 v2, .int .i64 v3]) ∧ Below w.heap.size w w' := by
  subst h0 h1 h2 h3
  exact combined_b op s0 s1 s2 s3 f0 f1 f2 f3 t0 t1 t2 t3 g0 g1 g2 g3 w

theorem over_q (w : World) : Calls Try.prog 19 #[] w fun e w' => e = .returned (.agg #[.bool true, .int .i64 5, .int .i64 6, .int .i64 1, .int .i64 2, .int .i64 1, .int .i64 1, .int .i64 15]) ∧ Below w.heap.size w w' := by
  have B4 := box_below w #[.bool true, .int .i64 5, .int .i64 6, .int .i64 1, .int .i64 2, .int .i64 1, .int .i64 1, .int .i64 15] 25
  go_enter Try.func19, Try.ntmps19
  go_wp2
  exact bodyPost_ret (by simp [results, Try.results19, go_sem]) rfl ⟨rfl, B4⟩

theorem vfac_yes (f : Int) (h1 : 1 ≤ f) (h2 : f ≤ 10) (w : World) : Calls Try.prog 51 #[.int .i64 f] w fun e w' => e = .returned (.bool true) ∧ Below w.heap.size w w' := by
  go_enter Try.func51, Try.ntmps51
  go_wp2
  go_ret
  exact ⟨ret_bool (by first | (simp; done) | (simp; omega)), Below.refl _ _⟩

theorem vop_yes (f : Int) (h1 : 1 ≤ f) (h2 : f ≤ 5) (w : World) : Calls Try.prog 52 #[.int .i64 f] w fun e w' => e = .returned (.bool true) ∧ Below w.heap.size w w' := by
  go_enter Try.func52, Try.ntmps52
  go_wp2
  go_ret
  exact ⟨ret_bool (by first | (simp; done) | (simp; omega)), Below.refl _ _⟩

set_option maxRecDepth 100000 in
set_option maxHeartbeats 1000000 in
theorem valid_over (w : World) : Calls Try.prog 30 #[.agg #[.bool true, .int .i64 5, .int .i64 6, .int .i64 1, .int .i64 2, .int .i64 1, .int .i64 1, .int .i64 15]] w fun e w' => e = .returned (.bool true) ∧ Below w.heap.size w w' := by
  have BB := box_below w #[.bool true, .int .i64 5, .int .i64 6, .int .i64 1, .int .i64 2, .int .i64 1, .int .i64 1, .int .i64 15] 25
  have X0 := EBox.made w #[.bool true, .int .i64 5, .int .i64 6, .int .i64 1, .int .i64 2, .int .i64 1, .int .i64 1, .int .i64 15] 25
  have e1 := X0.cell (i := 1) rfl
  have e2 := X0.cell (i := 2) rfl
  have e3 := X0.cell (i := 3) rfl
  have e4 := X0.cell (i := 4) rfl
  have e5 := X0.cell (i := 5) rfl
  have e6 := X0.cell (i := 6) rfl
  have e7 := X0.cell (i := 7) rfl
  clear X0
  have C5 := Lib.hid (fun W => vfac_yes 5 (by decide) (by decide) W)
  have C6 := Lib.hid (fun W => vfac_yes 6 (by decide) (by decide) W)
  have C2 := Lib.hid (fun W => vfac_yes 2 (by decide) (by decide) W)
  have C1 := Lib.hid (fun W => vfac_yes 1 (by decide) (by decide) W)
  have O1 := Lib.hid (fun W => vop_yes 1 (by decide) (by decide) W)
  go_enter Try.func30, Try.ntmps30
  go_wp2_with (first
    | (go_at_call 51; (with_reducible refine (C5.out _).mono ?_); rintro _ _ ⟨rfl, B⟩; (replace BB := bon BB B; replace e1 := cell_below B e1; replace e2 := cell_below B e2; replace e3 := cell_below B e3; replace e4 := cell_below B e4; replace e5 := cell_below B e5; replace e6 := cell_below B e6; replace e7 := cell_below B e7); clear B)
    | (go_at_call 51; (with_reducible refine (C6.out _).mono ?_); rintro _ _ ⟨rfl, B⟩; (replace BB := bon BB B; replace e1 := cell_below B e1; replace e2 := cell_below B e2; replace e3 := cell_below B e3; replace e4 := cell_below B e4; replace e5 := cell_below B e5; replace e6 := cell_below B e6; replace e7 := cell_below B e7); clear B)
    | (go_at_call 51; (with_reducible refine (C2.out _).mono ?_); rintro _ _ ⟨rfl, B⟩; (replace BB := bon BB B; replace e1 := cell_below B e1; replace e2 := cell_below B e2; replace e3 := cell_below B e3; replace e4 := cell_below B e4; replace e5 := cell_below B e5; replace e6 := cell_below B e6; replace e7 := cell_below B e7); clear B)
    | (go_at_call 51; (with_reducible refine (C1.out _).mono ?_); rintro _ _ ⟨rfl, B⟩; (replace BB := bon BB B; replace e1 := cell_below B e1; replace e2 := cell_below B e2; replace e3 := cell_below B e3; replace e4 := cell_below B e4; replace e5 := cell_below B e5; replace e6 := cell_below B e6; replace e7 := cell_below B e7); clear B)
    | (go_at_call 52; (with_reducible refine (O1.out _).mono ?_); rintro _ _ ⟨rfl, B⟩; (replace BB := bon BB B; replace e1 := cell_below B e1; replace e2 := cell_below B e2; replace e3 := cell_below B e3; replace e4 := cell_below B e4; replace e5 := cell_below B e5; replace e6 := cell_below B e6; replace e7 := cell_below B e7); clear B))
  go_ret
  exact ⟨rfl, BB⟩

theorem blend_ex (w : World) : Calls Try.prog 10 #[.agg #[.bool true, .int .i64 5, .int .i64 6, .int .i64 1, .int .i64 2, .int .i64 1, .int .i64 1, .int .i64 15], .agg #[.int .i64 65536, .int .i64 0, .int .i64 0, .int .i64 32768], .agg #[.int .i64 0, .int .i64 65536, .int .i64 0, .int .i64 65536]] w fun e w' => e = .returned (.agg #[.int .i64 32768, .int .i64 32768, .int .i64 0, .int .i64 32768]) ∧ Below w.heap.size w w' :=
  blend_on 5 6 1 2 1 1 15 65536 0 0 32768 0 65536 0 65536 32768 32768 32768 32768 32768 32768 32768 32768 65536 65536 65536 65536 0 0 0 0 32768 32768 0 49152 65536 0 0 32768
    (Lib.hid fun W => factor_at 5 65536 0 0 32768 0 65536 0 65536 32768 32768 32768 32768 (by decide) (by decide) (by decide) (by decide) W) (Lib.hid fun W => factor_at 6 65536 0 0 32768 0 65536 0 65536 32768 32768 32768 32768 (by decide) (by decide) (by decide) (by decide) W) (Lib.hid fun W => factor_at 2 65536 0 0 32768 0 65536 0 65536 65536 65536 65536 65536 (by decide) (by decide) (by decide) (by decide) W) (Lib.hid fun W => factor_at 1 65536 0 0 32768 0 65536 0 65536 0 0 0 0 (by decide) (by decide) (by decide) (by decide) W)
    (Lib.hid fun W => combined_at 1 65536 0 0 32768 32768 32768 32768 32768 0 65536 0 65536 32768 32768 32768 32768 32768 32768 0 49152 (by decide) (by decide) (by decide) (by decide) W)
    (Lib.hid fun W => combined_at 1 65536 0 0 32768 65536 65536 65536 65536 0 65536 0 65536 0 0 0 0 65536 0 0 32768 (by decide) (by decide) (by decide) (by decide) W) w

set_option maxRecDepth 100000 in
set_option maxHeartbeats 2000000 in
theorem example40_b (w : World) : Calls Try.prog 12 #[] w fun e w' => e = .returned (.bool true) ∧ Below w.heap.size w w' := by
  have BB := Below.refl w.heap.size w
  go_enter Try.func12, Try.ntmps12
  go_wp2_with (first
    | (go_at_call 19; refine (over_q _).mono ?_; rintro _ _ ⟨rfl, B⟩; replace BB := bon BB B; (try replace Ev4_0 := rangeAt_on Ev4_0 B); clear B)
    | (go_at_call 10; refine (blend_ex _).mono ?_; rintro _ W1 ⟨rfl, B⟩; replace BB := bon BB (bon B (box_below W1 #[.int .i64 32768, .int .i64 32768, .int .i64 0, .int .i64 32768] 27)); have Ev4_0 := range_cut (EBox.made W1 #[.int .i64 32768, .int .i64 32768, .int .i64 0, .int .i64 32768] 27).1 0 4; simp only [List.drop_zero, List.take_succ_cons, List.take_zero, Nat.zero_add] at Ev4_0; clear B)
    | (go_at_call 30; refine (valid_over _).mono ?_; rintro _ _ ⟨rfl, B⟩; (replace BB := bon BB B; replace Ev4_0 := rangeAt_on Ev4_0 B); clear B)
    | ((with_reducible refine eload4L rk_v4 Ev4_0 ?_ ?_); focus rfl)
    | (refine wpList_ungd rfl ?_; (with_reducible refine eload4L rk_v4 Ev4_0 ?_ ?_); focus rfl))
  go_ret
  exact ⟨rfl, BB⟩

end Go.Proofs.Ytainijafljpiaaa
