/- What Factor of package blend returns. -/
import Derived.Test.YtainijafljpiaaaBL2
namespace Go.Proofs.Ytainijafljpiaaa
set_option linter.unusedSimpArgs false
open Go.RowKit Go.Sort Go.ChangeShapes Go.WideShapes
set_option linter.unusedVariables false

theorem four_one (a b c d : Int) : ∀ v ∈ [Value.int .i64 a, .int .i64 b, .int .i64 c, .int .i64 d], v.oneCell' = true := by simp [Value.oneCell']

set_option maxRecDepth 100000 in
set_option maxHeartbeats 2000000 in
theorem factor_2 (s0 s1 s2 s3 t0 t1 t2 t3 : Int) (w : World) : Calls Try.prog 8 #[.int .i64 2, .agg #[.int .i64 s0, .int .i64 s1, .int .i64 s2, .int .i64 s3], .agg #[.int .i64 t0, .int .i64 t1, .int .i64 t2, .int .i64 t3]] w fun e w' => e = .returned (.agg #[.int .i64 65536, .int .i64 65536, .int .i64 65536, .int .i64 65536]) ∧ Below w.heap.size w w' := by
  have BB := box_below w #[.int .i64 s0, .int .i64 s1, .int .i64 s2, .int .i64 s3] 27
  have X0 := EBox.made w #[.int .i64 s0, .int .i64 s1, .int .i64 s2, .int .i64 s3] 27
  have hsz1 : (w.alloc (.cells #[.int .i64 s0, .int .i64 s1, .int .i64 s2, .int .i64 s3] 27)).heap.size = w.heap.size + 1 := by simp
  have X1 := EBox.made (w.alloc (.cells #[.int .i64 s0, .int .i64 s1, .int .i64 s2, .int .i64 s3] 27)) #[.int .i64 t0, .int .i64 t1, .int .i64 t2, .int .i64 t3] 27
  rw [hsz1] at X1
  replace X0 := X0.on (Nat.succ_pos _) (box_below (w.alloc (.cells #[.int .i64 s0, .int .i64 s1, .int .i64 s2, .int .i64 s3] 27)) #[.int .i64 t0, .int .i64 t1, .int .i64 t2, .int .i64 t3] 27)
  replace BB := bon BB (box_below (w.alloc (.cells #[.int .i64 s0, .int .i64 s1, .int .i64 s2, .int .i64 s3] 27)) #[.int .i64 t0, .int .i64 t1, .int .i64 t2, .int .i64 t3] 27)
  clear hsz1
  have hsz2 : ((w.alloc (.cells #[.int .i64 s0, .int .i64 s1, .int .i64 s2, .int .i64 s3] 27)).alloc (.cells #[.int .i64 t0, .int .i64 t1, .int .i64 t2, .int .i64 t3] 27)).heap.size = w.heap.size + 2 := by simp
  have X2 := EBox.made ((w.alloc (.cells #[.int .i64 s0, .int .i64 s1, .int .i64 s2, .int .i64 s3] 27)).alloc (.cells #[.int .i64 t0, .int .i64 t1, .int .i64 t2, .int .i64 t3] 27)) #[.int .i64 0, .int .i64 0, .int .i64 0, .int .i64 0] 27
  rw [hsz2] at X2
  replace X0 := X0.on (Nat.succ_pos _) (box_below ((w.alloc (.cells #[.int .i64 s0, .int .i64 s1, .int .i64 s2, .int .i64 s3] 27)).alloc (.cells #[.int .i64 t0, .int .i64 t1, .int .i64 t2, .int .i64 t3] 27)) #[.int .i64 0, .int .i64 0, .int .i64 0, .int .i64 0] 27)
  replace X1 := X1.on (Nat.succ_pos _) (box_below ((w.alloc (.cells #[.int .i64 s0, .int .i64 s1, .int .i64 s2, .int .i64 s3] 27)).alloc (.cells #[.int .i64 t0, .int .i64 t1, .int .i64 t2, .int .i64 t3] 27)) #[.int .i64 0, .int .i64 0, .int .i64 0, .int .i64 0] 27)
  replace BB := bon BB (box_below ((w.alloc (.cells #[.int .i64 s0, .int .i64 s1, .int .i64 s2, .int .i64 s3] 27)).alloc (.cells #[.int .i64 t0, .int .i64 t1, .int .i64 t2, .int .i64 t3] 27)) #[.int .i64 0, .int .i64 0, .int .i64 0, .int .i64 0] 27)
  clear hsz2
  have c3 := X0.cell (i := 3) rfl
  have Ev4_0 := range_cut X0.1 0 4
  simp only [List.drop_succ_cons, List.drop_zero, List.take_succ_cons, List.take_zero, Nat.zero_add] at Ev4_0
  have d3 := X1.cell (i := 3) rfl
  have Ev4_1 := range_cut X1.1 0 4
  simp only [List.drop_succ_cons, List.drop_zero, List.take_succ_cons, List.take_zero, Nat.zero_add] at Ev4_1
  clear X0 X1
  have XR := X2
  clear X2
  go_enter Try.func8, Try.ntmps8
  go_wp2_with (first | ((with_reducible refine eload4L rk_v4 Ev4_0 ?_ ?_); focus rfl) | ((with_reducible refine eload4L rk_v4 Ev4_1 ?_ ?_); focus rfl) | (go_at_call 20; refine (same_q _ _).mono ?_; rintro _ _ ⟨rfl, B⟩; (replace BB := bon BB B; replace c3 := cell_below B c3; replace d3 := cell_below B d3; replace Ev4_0 := rangeAt_on Ev4_0 B; replace Ev4_1 := rangeAt_on Ev4_1 B); replace XR := XR.on (Nat.succ_pos _) B; clear B) | (go_at_call 21; refine (oneMinus_b _ _ _ _ _).mono ?_; rintro _ _ ⟨rfl, B⟩; (replace BB := bon BB B; replace c3 := cell_below B c3; replace d3 := cell_below B d3; replace Ev4_0 := rangeAt_on Ev4_0 B; replace Ev4_1 := rangeAt_on Ev4_1 B); replace XR := XR.on (Nat.succ_pos _) B; clear B) | (refine esetL (vs := [.int .i64 65536, .int .i64 65536, .int .i64 65536, .int .i64 65536]) rk_v4 rfl rfl XR rfl rfl (four_one _ _ _ _) ?_; intro V1 X1 B1 hc hf; clear hc hf; have r0 := X1.cell (i := 0) rfl; have r1 := X1.cell (i := 1) rfl; have r2 := X1.cell (i := 2) rfl; have r3 := X1.cell (i := 3) rfl))
  exact bodyPost_ret (v := .agg #[.int .i64 65536, .int .i64 65536, .int .i64 65536, .int .i64 65536]) (by simp [results, Try.results8, go_sem, r0, r1, r2, r3]) rfl ⟨rfl, BB.trans (B1.mono (by omega))⟩

set_option maxRecDepth 100000 in
set_option maxHeartbeats 2000000 in
theorem factor_3 (s0 s1 s2 s3 t0 t1 t2 t3 : Int) (w : World) : Calls Try.prog 8 #[.int .i64 3, .agg #[.int .i64 s0, .int .i64 s1, .int .i64 s2, .int .i64 s3], .agg #[.int .i64 t0, .int .i64 t1, .int .i64 t2, .int .i64 t3]] w fun e w' => e = .returned (.agg #[.int .i64 s0, .int .i64 s1, .int .i64 s2, .int .i64 s3]) ∧ Below w.heap.size w w' := by
  have BB := box_below w #[.int .i64 s0, .int .i64 s1, .int .i64 s2, .int .i64 s3] 27
  have X0 := EBox.made w #[.int .i64 s0, .int .i64 s1, .int .i64 s2, .int .i64 s3] 27
  have hsz1 : (w.alloc (.cells #[.int .i64 s0, .int .i64 s1, .int .i64 s2, .int .i64 s3] 27)).heap.size = w.heap.size + 1 := by simp
  have X1 := EBox.made (w.alloc (.cells #[.int .i64 s0, .int .i64 s1, .int .i64 s2, .int .i64 s3] 27)) #[.int .i64 t0, .int .i64 t1, .int .i64 t2, .int .i64 t3] 27
  rw [hsz1] at X1
  replace X0 := X0.on (Nat.succ_pos _) (box_below (w.alloc (.cells #[.int .i64 s0, .int .i64 s1, .int .i64 s2, .int .i64 s3] 27)) #[.int .i64 t0, .int .i64 t1, .int .i64 t2, .int .i64 t3] 27)
  replace BB := bon BB (box_below (w.alloc (.cells #[.int .i64 s0, .int .i64 s1, .int .i64 s2, .int .i64 s3] 27)) #[.int .i64 t0, .int .i64 t1, .int .i64 t2, .int .i64 t3] 27)
  clear hsz1
  have hsz2 : ((w.alloc (.cells #[.int .i64 s0, .int .i64 s1, .int .i64 s2, .int .i64 s3] 27)).alloc (.cells #[.int .i64 t0, .int .i64 t1, .int .i64 t2, .int .i64 t3] 27)).heap.size = w.heap.size + 2 := by simp
  have X2 := EBox.made ((w.alloc (.cells #[.int .i64 s0, .int .i64 s1, .int .i64 s2, .int .i64 s3] 27)).alloc (.cells #[.int .i64 t0, .int .i64 t1, .int .i64 t2, .int .i64 t3] 27)) #[.int .i64 0, .int .i64 0, .int .i64 0, .int .i64 0] 27
  rw [hsz2] at X2
  replace X0 := X0.on (Nat.succ_pos _) (box_below ((w.alloc (.cells #[.int .i64 s0, .int .i64 s1, .int .i64 s2, .int .i64 s3] 27)).alloc (.cells #[.int .i64 t0, .int .i64 t1, .int .i64 t2, .int .i64 t3] 27)) #[.int .i64 0, .int .i64 0, .int .i64 0, .int .i64 0] 27)
  replace X1 := X1.on (Nat.succ_pos _) (box_below ((w.alloc (.cells #[.int .i64 s0, .int .i64 s1, .int .i64 s2, .int .i64 s3] 27)).alloc (.cells #[.int .i64 t0, .int .i64 t1, .int .i64 t2, .int .i64 t3] 27)) #[.int .i64 0, .int .i64 0, .int .i64 0, .int .i64 0] 27)
  replace BB := bon BB (box_below ((w.alloc (.cells #[.int .i64 s0, .int .i64 s1, .int .i64 s2, .int .i64 s3] 27)).alloc (.cells #[.int .i64 t0, .int .i64 t1, .int .i64 t2, .int .i64 t3] 27)) #[.int .i64 0, .int .i64 0, .int .i64 0, .int .i64 0] 27)
  clear hsz2
  have c3 := X0.cell (i := 3) rfl
  have Ev4_0 := range_cut X0.1 0 4
  simp only [List.drop_succ_cons, List.drop_zero, List.take_succ_cons, List.take_zero, Nat.zero_add] at Ev4_0
  have d3 := X1.cell (i := 3) rfl
  have Ev4_1 := range_cut X1.1 0 4
  simp only [List.drop_succ_cons, List.drop_zero, List.take_succ_cons, List.take_zero, Nat.zero_add] at Ev4_1
  clear X0 X1
  have XR := X2
  clear X2
  go_enter Try.func8, Try.ntmps8
  go_wp2_with (first | ((with_reducible refine eload4L rk_v4 Ev4_0 ?_ ?_); focus rfl) | ((with_reducible refine eload4L rk_v4 Ev4_1 ?_ ?_); focus rfl) | (go_at_call 20; refine (same_q _ _).mono ?_; rintro _ _ ⟨rfl, B⟩; (replace BB := bon BB B; replace c3 := cell_below B c3; replace d3 := cell_below B d3; replace Ev4_0 := rangeAt_on Ev4_0 B; replace Ev4_1 := rangeAt_on Ev4_1 B); replace XR := XR.on (Nat.succ_pos _) B; clear B) | (go_at_call 21; refine (oneMinus_b _ _ _ _ _).mono ?_; rintro _ _ ⟨rfl, B⟩; (replace BB := bon BB B; replace c3 := cell_below B c3; replace d3 := cell_below B d3; replace Ev4_0 := rangeAt_on Ev4_0 B; replace Ev4_1 := rangeAt_on Ev4_1 B); replace XR := XR.on (Nat.succ_pos _) B; clear B) | (refine esetL (vs := [.int .i64 s0, .int .i64 s1, .int .i64 s2, .int .i64 s3]) rk_v4 rfl rfl XR rfl rfl (four_one _ _ _ _) ?_; intro V1 X1 B1 hc hf; clear hc hf; have r0 := X1.cell (i := 0) rfl; have r1 := X1.cell (i := 1) rfl; have r2 := X1.cell (i := 2) rfl; have r3 := X1.cell (i := 3) rfl))
  exact bodyPost_ret (v := .agg #[.int .i64 s0, .int .i64 s1, .int .i64 s2, .int .i64 s3]) (by simp [results, Try.results8, go_sem, r0, r1, r2, r3]) rfl ⟨rfl, BB.trans (B1.mono (by omega))⟩

set_option maxRecDepth 100000 in
set_option maxHeartbeats 2000000 in
theorem factor_4 (s0 s1 s2 s3 t0 t1 t2 t3 : Int) (w : World) : Calls Try.prog 8 #[.int .i64 4, .agg #[.int .i64 s0, .int .i64 s1, .int .i64 s2, .int .i64 s3], .agg #[.int .i64 t0, .int .i64 t1, .int .i64 t2, .int .i64 t3]] w fun e w' => e = .returned (.agg #[.int .i64 (subv 65536 s0), .int .i64 (subv 65536 s1), .int .i64 (subv 65536 s2), .int .i64 (subv 65536 s3)]) ∧ Below w.heap.size w w' := by
  have BB := box_below w #[.int .i64 s0, .int .i64 s1, .int .i64 s2, .int .i64 s3] 27
  have X0 := EBox.made w #[.int .i64 s0, .int .i64 s1, .int .i64 s2, .int .i64 s3] 27
  have hsz1 : (w.alloc (.cells #[.int .i64 s0, .int .i64 s1, .int .i64 s2, .int .i64 s3] 27)).heap.size = w.heap.size + 1 := by simp
  have X1 := EBox.made (w.alloc (.cells #[.int .i64 s0, .int .i64 s1, .int .i64 s2, .int .i64 s3] 27)) #[.int .i64 t0, .int .i64 t1, .int .i64 t2, .int .i64 t3] 27
  rw [hsz1] at X1
  replace X0 := X0.on (Nat.succ_pos _) (box_below (w.alloc (.cells #[.int .i64 s0, .int .i64 s1, .int .i64 s2, .int .i64 s3] 27)) #[.int .i64 t0, .int .i64 t1, .int .i64 t2, .int .i64 t3] 27)
  replace BB := bon BB (box_below (w.alloc (.cells #[.int .i64 s0, .int .i64 s1, .int .i64 s2, .int .i64 s3] 27)) #[.int .i64 t0, .int .i64 t1, .int .i64 t2, .int .i64 t3] 27)
  clear hsz1
  have hsz2 : ((w.alloc (.cells #[.int .i64 s0, .int .i64 s1, .int .i64 s2, .int .i64 s3] 27)).alloc (.cells #[.int .i64 t0, .int .i64 t1, .int .i64 t2, .int .i64 t3] 27)).heap.size = w.heap.size + 2 := by simp
  have X2 := EBox.made ((w.alloc (.cells #[.int .i64 s0, .int .i64 s1, .int .i64 s2, .int .i64 s3] 27)).alloc (.cells #[.int .i64 t0, .int .i64 t1, .int .i64 t2, .int .i64 t3] 27)) #[.int .i64 0, .int .i64 0, .int .i64 0, .int .i64 0] 27
  rw [hsz2] at X2
  replace X0 := X0.on (Nat.succ_pos _) (box_below ((w.alloc (.cells #[.int .i64 s0, .int .i64 s1, .int .i64 s2, .int .i64 s3] 27)).alloc (.cells #[.int .i64 t0, .int .i64 t1, .int .i64 t2, .int .i64 t3] 27)) #[.int .i64 0, .int .i64 0, .int .i64 0, .int .i64 0] 27)
  replace X1 := X1.on (Nat.succ_pos _) (box_below ((w.alloc (.cells #[.int .i64 s0, .int .i64 s1, .int .i64 s2, .int .i64 s3] 27)).alloc (.cells #[.int .i64 t0, .int .i64 t1, .int .i64 t2, .int .i64 t3] 27)) #[.int .i64 0, .int .i64 0, .int .i64 0, .int .i64 0] 27)
  replace BB := bon BB (box_below ((w.alloc (.cells #[.int .i64 s0, .int .i64 s1, .int .i64 s2, .int .i64 s3] 27)).alloc (.cells #[.int .i64 t0, .int .i64 t1, .int .i64 t2, .int .i64 t3] 27)) #[.int .i64 0, .int .i64 0, .int .i64 0, .int .i64 0] 27)
  clear hsz2
  have c3 := X0.cell (i := 3) rfl
  have Ev4_0 := range_cut X0.1 0 4
  simp only [List.drop_succ_cons, List.drop_zero, List.take_succ_cons, List.take_zero, Nat.zero_add] at Ev4_0
  have d3 := X1.cell (i := 3) rfl
  have Ev4_1 := range_cut X1.1 0 4
  simp only [List.drop_succ_cons, List.drop_zero, List.take_succ_cons, List.take_zero, Nat.zero_add] at Ev4_1
  clear X0 X1
  have XR := X2
  clear X2
  go_enter Try.func8, Try.ntmps8
  go_wp2_with (first | ((with_reducible refine eload4L rk_v4 Ev4_0 ?_ ?_); focus rfl) | ((with_reducible refine eload4L rk_v4 Ev4_1 ?_ ?_); focus rfl) | (go_at_call 20; refine (same_q _ _).mono ?_; rintro _ _ ⟨rfl, B⟩; (replace BB := bon BB B; replace c3 := cell_below B c3; replace d3 := cell_below B d3; replace Ev4_0 := rangeAt_on Ev4_0 B; replace Ev4_1 := rangeAt_on Ev4_1 B); replace XR := XR.on (Nat.succ_pos _) B; clear B) | (go_at_call 21; refine (oneMinus_b _ _ _ _ _).mono ?_; rintro _ _ ⟨rfl, B⟩; (replace BB := bon BB B; replace c3 := cell_below B c3; replace d3 := cell_below B d3; replace Ev4_0 := rangeAt_on Ev4_0 B; replace Ev4_1 := rangeAt_on Ev4_1 B); replace XR := XR.on (Nat.succ_pos _) B; clear B) | (refine esetL (vs := [.int .i64 (subv 65536 s0), .int .i64 (subv 65536 s1), .int .i64 (subv 65536 s2), .int .i64 (subv 65536 s3)]) rk_v4 rfl rfl XR rfl rfl (four_one _ _ _ _) ?_; intro V1 X1 B1 hc hf; clear hc hf; have r0 := X1.cell (i := 0) rfl; have r1 := X1.cell (i := 1) rfl; have r2 := X1.cell (i := 2) rfl; have r3 := X1.cell (i := 3) rfl))
  exact bodyPost_ret (v := .agg #[.int .i64 (subv 65536 s0), .int .i64 (subv 65536 s1), .int .i64 (subv 65536 s2), .int .i64 (subv 65536 s3)]) (by simp [results, Try.results8, go_sem, r0, r1, r2, r3]) rfl ⟨rfl, BB.trans (B1.mono (by omega))⟩

set_option maxRecDepth 100000 in
set_option maxHeartbeats 2000000 in
theorem factor_5 (s0 s1 s2 s3 t0 t1 t2 t3 : Int) (w : World) : Calls Try.prog 8 #[.int .i64 5, .agg #[.int .i64 s0, .int .i64 s1, .int .i64 s2, .int .i64 s3], .agg #[.int .i64 t0, .int .i64 t1, .int .i64 t2, .int .i64 t3]] w fun e w' => e = .returned (.agg #[.int .i64 s3, .int .i64 s3, .int .i64 s3, .int .i64 s3]) ∧ Below w.heap.size w w' := by
  have BB := box_below w #[.int .i64 s0, .int .i64 s1, .int .i64 s2, .int .i64 s3] 27
  have X0 := EBox.made w #[.int .i64 s0, .int .i64 s1, .int .i64 s2, .int .i64 s3] 27
  have hsz1 : (w.alloc (.cells #[.int .i64 s0, .int .i64 s1, .int .i64 s2, .int .i64 s3] 27)).heap.size = w.heap.size + 1 := by simp
  have X1 := EBox.made (w.alloc (.cells #[.int .i64 s0, .int .i64 s1, .int .i64 s2, .int .i64 s3] 27)) #[.int .i64 t0, .int .i64 t1, .int .i64 t2, .int .i64 t3] 27
  rw [hsz1] at X1
  replace X0 := X0.on (Nat.succ_pos _) (box_below (w.alloc (.cells #[.int .i64 s0, .int .i64 s1, .int .i64 s2, .int .i64 s3] 27)) #[.int .i64 t0, .int .i64 t1, .int .i64 t2, .int .i64 t3] 27)
  replace BB := bon BB (box_below (w.alloc (.cells #[.int .i64 s0, .int .i64 s1, .int .i64 s2, .int .i64 s3] 27)) #[.int .i64 t0, .int .i64 t1, .int .i64 t2, .int .i64 t3] 27)
  clear hsz1
  have hsz2 : ((w.alloc (.cells #[.int .i64 s0, .int .i64 s1, .int .i64 s2, .int .i64 s3] 27)).alloc (.cells #[.int .i64 t0, .int .i64 t1, .int .i64 t2, .int .i64 t3] 27)).heap.size = w.heap.size + 2 := by simp
  have X2 := EBox.made ((w.alloc (.cells #[.int .i64 s0, .int .i64 s1, .int .i64 s2, .int .i64 s3] 27)).alloc (.cells #[.int .i64 t0, .int .i64 t1, .int .i64 t2, .int .i64 t3] 27)) #[.int .i64 0, .int .i64 0, .int .i64 0, .int .i64 0] 27
  rw [hsz2] at X2
  replace X0 := X0.on (Nat.succ_pos _) (box_below ((w.alloc (.cells #[.int .i64 s0, .int .i64 s1, .int .i64 s2, .int .i64 s3] 27)).alloc (.cells #[.int .i64 t0, .int .i64 t1, .int .i64 t2, .int .i64 t3] 27)) #[.int .i64 0, .int .i64 0, .int .i64 0, .int .i64 0] 27)
  replace X1 := X1.on (Nat.succ_pos _) (box_below ((w.alloc (.cells #[.int .i64 s0, .int .i64 s1, .int .i64 s2, .int .i64 s3] 27)).alloc (.cells #[.int .i64 t0, .int .i64 t1, .int .i64 t2, .int .i64 t3] 27)) #[.int .i64 0, .int .i64 0, .int .i64 0, .int .i64 0] 27)
  replace BB := bon BB (box_below ((w.alloc (.cells #[.int .i64 s0, .int .i64 s1, .int .i64 s2, .int .i64 s3] 27)).alloc (.cells #[.int .i64 t0, .int .i64 t1, .int .i64 t2, .int .i64 t3] 27)) #[.int .i64 0, .int .i64 0, .int .i64 0, .int .i64 0] 27)
  clear hsz2
  have c3 := X0.cell (i := 3) rfl
  have Ev4_0 := range_cut X0.1 0 4
  simp only [List.drop_succ_cons, List.drop_zero, List.take_succ_cons, List.take_zero, Nat.zero_add] at Ev4_0
  have d3 := X1.cell (i := 3) rfl
  have Ev4_1 := range_cut X1.1 0 4
  simp only [List.drop_succ_cons, List.drop_zero, List.take_succ_cons, List.take_zero, Nat.zero_add] at Ev4_1
  clear X0 X1
  have XR := X2
  clear X2
  go_enter Try.func8, Try.ntmps8
  go_wp2_with (first | ((with_reducible refine eload4L rk_v4 Ev4_0 ?_ ?_); focus rfl) | ((with_reducible refine eload4L rk_v4 Ev4_1 ?_ ?_); focus rfl) | (go_at_call 20; refine (same_q _ _).mono ?_; rintro _ _ ⟨rfl, B⟩; (replace BB := bon BB B; replace c3 := cell_below B c3; replace d3 := cell_below B d3; replace Ev4_0 := rangeAt_on Ev4_0 B; replace Ev4_1 := rangeAt_on Ev4_1 B); replace XR := XR.on (Nat.succ_pos _) B; clear B) | (go_at_call 21; refine (oneMinus_b _ _ _ _ _).mono ?_; rintro _ _ ⟨rfl, B⟩; (replace BB := bon BB B; replace c3 := cell_below B c3; replace d3 := cell_below B d3; replace Ev4_0 := rangeAt_on Ev4_0 B; replace Ev4_1 := rangeAt_on Ev4_1 B); replace XR := XR.on (Nat.succ_pos _) B; clear B) | (refine esetL (vs := [.int .i64 s3, .int .i64 s3, .int .i64 s3, .int .i64 s3]) rk_v4 rfl rfl XR rfl rfl (four_one _ _ _ _) ?_; intro V1 X1 B1 hc hf; clear hc hf; have r0 := X1.cell (i := 0) rfl; have r1 := X1.cell (i := 1) rfl; have r2 := X1.cell (i := 2) rfl; have r3 := X1.cell (i := 3) rfl))
  exact bodyPost_ret (v := .agg #[.int .i64 s3, .int .i64 s3, .int .i64 s3, .int .i64 s3]) (by simp [results, Try.results8, go_sem, r0, r1, r2, r3]) rfl ⟨rfl, BB.trans (B1.mono (by omega))⟩

set_option maxRecDepth 100000 in
set_option maxHeartbeats 2000000 in
theorem factor_6 (s0 s1 s2 s3 t0 t1 t2 t3 : Int) (w : World) : Calls Try.prog 8 #[.int .i64 6, .agg #[.int .i64 s0, .int .i64 s1, .int .i64 s2, .int .i64 s3], .agg #[.int .i64 t0, .int .i64 t1, .int .i64 t2, .int .i64 t3]] w fun e w' => e = .returned (.agg #[.int .i64 (subv 65536 s3), .int .i64 (subv 65536 s3), .int .i64 (subv 65536 s3), .int .i64 (subv 65536 s3)]) ∧ Below w.heap.size w w' := by
  have BB := box_below w #[.int .i64 s0, .int .i64 s1, .int .i64 s2, .int .i64 s3] 27
  have X0 := EBox.made w #[.int .i64 s0, .int .i64 s1, .int .i64 s2, .int .i64 s3] 27
  have hsz1 : (w.alloc (.cells #[.int .i64 s0, .int .i64 s1, .int .i64 s2, .int .i64 s3] 27)).heap.size = w.heap.size + 1 := by simp
  have X1 := EBox.made (w.alloc (.cells #[.int .i64 s0, .int .i64 s1, .int .i64 s2, .int .i64 s3] 27)) #[.int .i64 t0, .int .i64 t1, .int .i64 t2, .int .i64 t3] 27
  rw [hsz1] at X1
  replace X0 := X0.on (Nat.succ_pos _) (box_below (w.alloc (.cells #[.int .i64 s0, .int .i64 s1, .int .i64 s2, .int .i64 s3] 27)) #[.int .i64 t0, .int .i64 t1, .int .i64 t2, .int .i64 t3] 27)
  replace BB := bon BB (box_below (w.alloc (.cells #[.int .i64 s0, .int .i64 s1, .int .i64 s2, .int .i64 s3] 27)) #[.int .i64 t0, .int .i64 t1, .int .i64 t2, .int .i64 t3] 27)
  clear hsz1
  have hsz2 : ((w.alloc (.cells #[.int .i64 s0, .int .i64 s1, .int .i64 s2, .int .i64 s3] 27)).alloc (.cells #[.int .i64 t0, .int .i64 t1, .int .i64 t2, .int .i64 t3] 27)).heap.size = w.heap.size + 2 := by simp
  have X2 := EBox.made ((w.alloc (.cells #[.int .i64 s0, .int .i64 s1, .int .i64 s2, .int .i64 s3] 27)).alloc (.cells #[.int .i64 t0, .int .i64 t1, .int .i64 t2, .int .i64 t3] 27)) #[.int .i64 0, .int .i64 0, .int .i64 0, .int .i64 0] 27
  rw [hsz2] at X2
  replace X0 := X0.on (Nat.succ_pos _) (box_below ((w.alloc (.cells #[.int .i64 s0, .int .i64 s1, .int .i64 s2, .int .i64 s3] 27)).alloc (.cells #[.int .i64 t0, .int .i64 t1, .int .i64 t2, .int .i64 t3] 27)) #[.int .i64 0, .int .i64 0, .int .i64 0, .int .i64 0] 27)
  replace X1 := X1.on (Nat.succ_pos _) (box_below ((w.alloc (.cells #[.int .i64 s0, .int .i64 s1, .int .i64 s2, .int .i64 s3] 27)).alloc (.cells #[.int .i64 t0, .int .i64 t1, .int .i64 t2, .int .i64 t3] 27)) #[.int .i64 0, .int .i64 0, .int .i64 0, .int .i64 0] 27)
  replace BB := bon BB (box_below ((w.alloc (.cells #[.int .i64 s0, .int .i64 s1, .int .i64 s2, .int .i64 s3] 27)).alloc (.cells #[.int .i64 t0, .int .i64 t1, .int .i64 t2, .int .i64 t3] 27)) #[.int .i64 0, .int .i64 0, .int .i64 0, .int .i64 0] 27)
  clear hsz2
  have c3 := X0.cell (i := 3) rfl
  have Ev4_0 := range_cut X0.1 0 4
  simp only [List.drop_succ_cons, List.drop_zero, List.take_succ_cons, List.take_zero, Nat.zero_add] at Ev4_0
  have d3 := X1.cell (i := 3) rfl
  have Ev4_1 := range_cut X1.1 0 4
  simp only [List.drop_succ_cons, List.drop_zero, List.take_succ_cons, List.take_zero, Nat.zero_add] at Ev4_1
  clear X0 X1
  have XR := X2
  clear X2
  go_enter Try.func8, Try.ntmps8
  go_wp2_with (first | ((with_reducible refine eload4L rk_v4 Ev4_0 ?_ ?_); focus rfl) | ((with_reducible refine eload4L rk_v4 Ev4_1 ?_ ?_); focus rfl) | (go_at_call 20; refine (same_q _ _).mono ?_; rintro _ _ ⟨rfl, B⟩; (replace BB := bon BB B; replace c3 := cell_below B c3; replace d3 := cell_below B d3; replace Ev4_0 := rangeAt_on Ev4_0 B; replace Ev4_1 := rangeAt_on Ev4_1 B); replace XR := XR.on (Nat.succ_pos _) B; clear B) | (go_at_call 21; refine (oneMinus_b _ _ _ _ _).mono ?_; rintro _ _ ⟨rfl, B⟩; (replace BB := bon BB B; replace c3 := cell_below B c3; replace d3 := cell_below B d3; replace Ev4_0 := rangeAt_on Ev4_0 B; replace Ev4_1 := rangeAt_on Ev4_1 B); replace XR := XR.on (Nat.succ_pos _) B; clear B) | (refine esetL (vs := [.int .i64 (subv 65536 s3), .int .i64 (subv 65536 s3), .int .i64 (subv 65536 s3), .int .i64 (subv 65536 s3)]) rk_v4 rfl rfl XR rfl rfl (four_one _ _ _ _) ?_; intro V1 X1 B1 hc hf; clear hc hf; have r0 := X1.cell (i := 0) rfl; have r1 := X1.cell (i := 1) rfl; have r2 := X1.cell (i := 2) rfl; have r3 := X1.cell (i := 3) rfl))
  exact bodyPost_ret (v := .agg #[.int .i64 (subv 65536 s3), .int .i64 (subv 65536 s3), .int .i64 (subv 65536 s3), .int .i64 (subv 65536 s3)]) (by simp [results, Try.results8, go_sem, r0, r1, r2, r3]) rfl ⟨rfl, BB.trans (B1.mono (by omega))⟩

set_option maxRecDepth 100000 in
set_option maxHeartbeats 2000000 in
theorem factor_7 (s0 s1 s2 s3 t0 t1 t2 t3 : Int) (w : World) : Calls Try.prog 8 #[.int .i64 7, .agg #[.int .i64 s0, .int .i64 s1, .int .i64 s2, .int .i64 s3], .agg #[.int .i64 t0, .int .i64 t1, .int .i64 t2, .int .i64 t3]] w fun e w' => e = .returned (.agg #[.int .i64 t0, .int .i64 t1, .int .i64 t2, .int .i64 t3]) ∧ Below w.heap.size w w' := by
  have BB := box_below w #[.int .i64 s0, .int .i64 s1, .int .i64 s2, .int .i64 s3] 27
  have X0 := EBox.made w #[.int .i64 s0, .int .i64 s1, .int .i64 s2, .int .i64 s3] 27
  have hsz1 : (w.alloc (.cells #[.int .i64 s0, .int .i64 s1, .int .i64 s2, .int .i64 s3] 27)).heap.size = w.heap.size + 1 := by simp
  have X1 := EBox.made (w.alloc (.cells #[.int .i64 s0, .int .i64 s1, .int .i64 s2, .int .i64 s3] 27)) #[.int .i64 t0, .int .i64 t1, .int .i64 t2, .int .i64 t3] 27
  rw [hsz1] at X1
  replace X0 := X0.on (Nat.succ_pos _) (box_below (w.alloc (.cells #[.int .i64 s0, .int .i64 s1, .int .i64 s2, .int .i64 s3] 27)) #[.int .i64 t0, .int .i64 t1, .int .i64 t2, .int .i64 t3] 27)
  replace BB := bon BB (box_below (w.alloc (.cells #[.int .i64 s0, .int .i64 s1, .int .i64 s2, .int .i64 s3] 27)) #[.int .i64 t0, .int .i64 t1, .int .i64 t2, .int .i64 t3] 27)
  clear hsz1
  have hsz2 : ((w.alloc (.cells #[.int .i64 s0, .int .i64 s1, .int .i64 s2, .int .i64 s3] 27)).alloc (.cells #[.int .i64 t0, .int .i64 t1, .int .i64 t2, .int .i64 t3] 27)).heap.size = w.heap.size + 2 := by simp
  have X2 := EBox.made ((w.alloc (.cells #[.int .i64 s0, .int .i64 s1, .int .i64 s2, .int .i64 s3] 27)).alloc (.cells #[.int .i64 t0, .int .i64 t1, .int .i64 t2, .int .i64 t3] 27)) #[.int .i64 0, .int .i64 0, .int .i64 0, .int .i64 0] 27
  rw [hsz2] at X2
  replace X0 := X0.on (Nat.succ_pos _) (box_below ((w.alloc (.cells #[.int .i64 s0, .int .i64 s1, .int .i64 s2, .int .i64 s3] 27)).alloc (.cells #[.int .i64 t0, .int .i64 t1, .int .i64 t2, .int .i64 t3] 27)) #[.int .i64 0, .int .i64 0, .int .i64 0, .int .i64 0] 27)
  replace X1 := X1.on (Nat.succ_pos _) (box_below ((w.alloc (.cells #[.int .i64 s0, .int .i64 s1, .int .i64 s2, .int .i64 s3] 27)).alloc (.cells #[.int .i64 t0, .int .i64 t1, .int .i64 t2, .int .i64 t3] 27)) #[.int .i64 0, .int .i64 0, .int .i64 0, .int .i64 0] 27)
  replace BB := bon BB (box_below ((w.alloc (.cells #[.int .i64 s0, .int .i64 s1, .int .i64 s2, .int .i64 s3] 27)).alloc (.cells #[.int .i64 t0, .int .i64 t1, .int .i64 t2, .int .i64 t3] 27)) #[.int .i64 0, .int .i64 0, .int .i64 0, .int .i64 0] 27)
  clear hsz2
  have c3 := X0.cell (i := 3) rfl
  have Ev4_0 := range_cut X0.1 0 4
  simp only [List.drop_succ_cons, List.drop_zero, List.take_succ_cons, List.take_zero, Nat.zero_add] at Ev4_0
  have d3 := X1.cell (i := 3) rfl
  have Ev4_1 := range_cut X1.1 0 4
  simp only [List.drop_succ_cons, List.drop_zero, List.take_succ_cons, List.take_zero, Nat.zero_add] at Ev4_1
  clear X0 X1
  have XR := X2
  clear X2
  go_enter Try.func8, Try.ntmps8
  go_wp2_with (first | ((with_reducible refine eload4L rk_v4 Ev4_0 ?_ ?_); focus rfl) | ((with_reducible refine eload4L rk_v4 Ev4_1 ?_ ?_); focus rfl) | (go_at_call 20; refine (same_q _ _).mono ?_; rintro _ _ ⟨rfl, B⟩; (replace BB := bon BB B; replace c3 := cell_below B c3; replace d3 := cell_below B d3; replace Ev4_0 := rangeAt_on Ev4_0 B; replace Ev4_1 := rangeAt_on Ev4_1 B); replace XR := XR.on (Nat.succ_pos _) B; clear B) | (go_at_call 21; refine (oneMinus_b _ _ _ _ _).mono ?_; rintro _ _ ⟨rfl, B⟩; (replace BB := bon BB B; replace c3 := cell_below B c3; replace d3 := cell_below B d3; replace Ev4_0 := rangeAt_on Ev4_0 B; replace Ev4_1 := rangeAt_on Ev4_1 B); replace XR := XR.on (Nat.succ_pos _) B; clear B) | (refine esetL (vs := [.int .i64 t0, .int .i64 t1, .int .i64 t2, .int .i64 t3]) rk_v4 rfl rfl XR rfl rfl (four_one _ _ _ _) ?_; intro V1 X1 B1 hc hf; clear hc hf; have r0 := X1.cell (i := 0) rfl; have r1 := X1.cell (i := 1) rfl; have r2 := X1.cell (i := 2) rfl; have r3 := X1.cell (i := 3) rfl))
  exact bodyPost_ret (v := .agg #[.int .i64 t0, .int .i64 t1, .int .i64 t2, .int .i64 t3]) (by simp [results, Try.results8, go_sem, r0, r1, r2, r3]) rfl ⟨rfl, BB.trans (B1.mono (by omega))⟩

set_option maxRecDepth 100000 in
set_option maxHeartbeats 2000000 in
theorem factor_8 (s0 s1 s2 s3 t0 t1 t2 t3 : Int) (w : World) : Calls Try.prog 8 #[.int .i64 8, .agg #[.int .i64 s0, .int .i64 s1, .int .i64 s2, .int .i64 s3], .agg #[.int .i64 t0, .int .i64 t1, .int .i64 t2, .int .i64 t3]] w fun e w' => e = .returned (.agg #[.int .i64 (subv 65536 t0), .int .i64 (subv 65536 t1), .int .i64 (subv 65536 t2), .int .i64 (subv 65536 t3)]) ∧ Below w.heap.size w w' := by
  have BB := box_below w #[.int .i64 s0, .int .i64 s1, .int .i64 s2, .int .i64 s3] 27
  have X0 := EBox.made w #[.int .i64 s0, .int .i64 s1, .int .i64 s2, .int .i64 s3] 27
  have hsz1 : (w.alloc (.cells #[.int .i64 s0, .int .i64 s1, .int .i64 s2, .int .i64 s3] 27)).heap.size = w.heap.size + 1 := by simp
  have X1 := EBox.made (w.alloc (.cells #[.int .i64 s0, .int .i64 s1, .int .i64 s2, .int .i64 s3] 27)) #[.int .i64 t0, .int .i64 t1, .int .i64 t2, .int .i64 t3] 27
  rw [hsz1] at X1
  replace X0 := X0.on (Nat.succ_pos _) (box_below (w.alloc (.cells #[.int .i64 s0, .int .i64 s1, .int .i64 s2, .int .i64 s3] 27)) #[.int .i64 t0, .int .i64 t1, .int .i64 t2, .int .i64 t3] 27)
  replace BB := bon BB (box_below (w.alloc (.cells #[.int .i64 s0, .int .i64 s1, .int .i64 s2, .int .i64 s3] 27)) #[.int .i64 t0, .int .i64 t1, .int .i64 t2, .int .i64 t3] 27)
  clear hsz1
  have hsz2 : ((w.alloc (.cells #[.int .i64 s0, .int .i64 s1, .int .i64 s2, .int .i64 s3] 27)).alloc (.cells #[.int .i64 t0, .int .i64 t1, .int .i64 t2, .int .i64 t3] 27)).heap.size = w.heap.size + 2 := by simp
  have X2 := EBox.made ((w.alloc (.cells #[.int .i64 s0, .int .i64 s1, .int .i64 s2, .int .i64 s3] 27)).alloc (.cells #[.int .i64 t0, .int .i64 t1, .int .i64 t2, .int .i64 t3] 27)) #[.int .i64 0, .int .i64 0, .int .i64 0, .int .i64 0] 27
  rw [hsz2] at X2
  replace X0 := X0.on (Nat.succ_pos _) (box_below ((w.alloc (.cells #[.int .i64 s0, .int .i64 s1, .int .i64 s2, .int .i64 s3] 27)).alloc (.cells #[.int .i64 t0, .int .i64 t1, .int .i64 t2, .int .i64 t3] 27)) #[.int .i64 0, .int .i64 0, .int .i64 0, .int .i64 0] 27)
  replace X1 := X1.on (Nat.succ_pos _) (box_below ((w.alloc (.cells #[.int .i64 s0, .int .i64 s1, .int .i64 s2, .int .i64 s3] 27)).alloc (.cells #[.int .i64 t0, .int .i64 t1, .int .i64 t2, .int .i64 t3] 27)) #[.int .i64 0, .int .i64 0, .int .i64 0, .int .i64 0] 27)
  replace BB := bon BB (box_below ((w.alloc (.cells #[.int .i64 s0, .int .i64 s1, .int .i64 s2, .int .i64 s3] 27)).alloc (.cells #[.int .i64 t0, .int .i64 t1, .int .i64 t2, .int .i64 t3] 27)) #[.int .i64 0, .int .i64 0, .int .i64 0, .int .i64 0] 27)
  clear hsz2
  have c3 := X0.cell (i := 3) rfl
  have Ev4_0 := range_cut X0.1 0 4
  simp only [List.drop_succ_cons, List.drop_zero, List.take_succ_cons, List.take_zero, Nat.zero_add] at Ev4_0
  have d3 := X1.cell (i := 3) rfl
  have Ev4_1 := range_cut X1.1 0 4
  simp only [List.drop_succ_cons, List.drop_zero, List.take_succ_cons, List.take_zero, Nat.zero_add] at Ev4_1
  clear X0 X1
  have XR := X2
  clear X2
  go_enter Try.func8, Try.ntmps8
  go_wp2_with (first | ((with_reducible refine eload4L rk_v4 Ev4_0 ?_ ?_); focus rfl) | ((with_reducible refine eload4L rk_v4 Ev4_1 ?_ ?_); focus rfl) | (go_at_call 20; refine (same_q _ _).mono ?_; rintro _ _ ⟨rfl, B⟩; (replace BB := bon BB B; replace c3 := cell_below B c3; replace d3 := cell_below B d3; replace Ev4_0 := rangeAt_on Ev4_0 B; replace Ev4_1 := rangeAt_on Ev4_1 B); replace XR := XR.on (Nat.succ_pos _) B; clear B) | (go_at_call 21; refine (oneMinus_b _ _ _ _ _).mono ?_; rintro _ _ ⟨rfl, B⟩; (replace BB := bon BB B; replace c3 := cell_below B c3; replace d3 := cell_below B d3; replace Ev4_0 := rangeAt_on Ev4_0 B; replace Ev4_1 := rangeAt_on Ev4_1 B); replace XR := XR.on (Nat.succ_pos _) B; clear B) | (refine esetL (vs := [.int .i64 (subv 65536 t0), .int .i64 (subv 65536 t1), .int .i64 (subv 65536 t2), .int .i64 (subv 65536 t3)]) rk_v4 rfl rfl XR rfl rfl (four_one _ _ _ _) ?_; intro V1 X1 B1 hc hf; clear hc hf; have r0 := X1.cell (i := 0) rfl; have r1 := X1.cell (i := 1) rfl; have r2 := X1.cell (i := 2) rfl; have r3 := X1.cell (i := 3) rfl))
  exact bodyPost_ret (v := .agg #[.int .i64 (subv 65536 t0), .int .i64 (subv 65536 t1), .int .i64 (subv 65536 t2), .int .i64 (subv 65536 t3)]) (by simp [results, Try.results8, go_sem, r0, r1, r2, r3]) rfl ⟨rfl, BB.trans (B1.mono (by omega))⟩

set_option maxRecDepth 100000 in
set_option maxHeartbeats 2000000 in
theorem factor_9 (s0 s1 s2 s3 t0 t1 t2 t3 : Int) (w : World) : Calls Try.prog 8 #[.int .i64 9, .agg #[.int .i64 s0, .int .i64 s1, .int .i64 s2, .int .i64 s3], .agg #[.int .i64 t0, .int .i64 t1, .int .i64 t2, .int .i64 t3]] w fun e w' => e = .returned (.agg #[.int .i64 t3, .int .i64 t3, .int .i64 t3, .int .i64 t3]) ∧ Below w.heap.size w w' := by
  have BB := box_below w #[.int .i64 s0, .int .i64 s1, .int .i64 s2, .int .i64 s3] 27
  have X0 := EBox.made w #[.int .i64 s0, .int .i64 s1, .int .i64 s2, .int .i64 s3] 27
  have hsz1 : (w.alloc (.cells #[.int .i64 s0, .int .i64 s1, .int .i64 s2, .int .i64 s3] 27)).heap.size = w.heap.size + 1 := by simp
  have X1 := EBox.made (w.alloc (.cells #[.int .i64 s0, .int .i64 s1, .int .i64 s2, .int .i64 s3] 27)) #[.int .i64 t0, .int .i64 t1, .int .i64 t2, .int .i64 t3] 27
  rw [hsz1] at X1
  replace X0 := X0.on (Nat.succ_pos _) (box_below (w.alloc (.cells #[.int .i64 s0, .int .i64 s1, .int .i64 s2, .int .i64 s3] 27)) #[.int .i64 t0, .int .i64 t1, .int .i64 t2, .int .i64 t3] 27)
  replace BB := bon BB (box_below (w.alloc (.cells #[.int .i64 s0, .int .i64 s1, .int .i64 s2, .int .i64 s3] 27)) #[.int .i64 t0, .int .i64 t1, .int .i64 t2, .int .i64 t3] 27)
  clear hsz1
  have hsz2 : ((w.alloc (.cells #[.int .i64 s0, .int .i64 s1, .int .i64 s2, .int .i64 s3] 27)).alloc (.cells #[.int .i64 t0, .int .i64 t1, .int .i64 t2, .int .i64 t3] 27)).heap.size = w.heap.size + 2 := by simp
  have X2 := EBox.made ((w.alloc (.cells #[.int .i64 s0, .int .i64 s1, .int .i64 s2, .int .i64 s3] 27)).alloc (.cells #[.int .i64 t0, .int .i64 t1, .int .i64 t2, .int .i64 t3] 27)) #[.int .i64 0, .int .i64 0, .int .i64 0, .int .i64 0] 27
  rw [hsz2] at X2
  replace X0 := X0.on (Nat.succ_pos _) (box_below ((w.alloc (.cells #[.int .i64 s0, .int .i64 s1, .int .i64 s2, .int .i64 s3] 27)).alloc (.cells #[.int .i64 t0, .int .i64 t1, .int .i64 t2, .int .i64 t3] 27)) #[.int .i64 0, .int .i64 0, .int .i64 0, .int .i64 0] 27)
  replace X1 := X1.on (Nat.succ_pos _) (box_below ((w.alloc (.cells #[.int .i64 s0, .int .i64 s1, .int .i64 s2, .int .i64 s3] 27)).alloc (.cells #[.int .i64 t0, .int .i64 t1, .int .i64 t2, .int .i64 t3] 27)) #[.int .i64 0, .int .i64 0, .int .i64 0, .int .i64 0] 27)
  replace BB := bon BB (box_below ((w.alloc (.cells #[.int .i64 s0, .int .i64 s1, .int .i64 s2, .int .i64 s3] 27)).alloc (.cells #[.int .i64 t0, .int .i64 t1, .int .i64 t2, .int .i64 t3] 27)) #[.int .i64 0, .int .i64 0, .int .i64 0, .int .i64 0] 27)
  clear hsz2
  have c3 := X0.cell (i := 3) rfl
  have Ev4_0 := range_cut X0.1 0 4
  simp only [List.drop_succ_cons, List.drop_zero, List.take_succ_cons, List.take_zero, Nat.zero_add] at Ev4_0
  have d3 := X1.cell (i := 3) rfl
  have Ev4_1 := range_cut X1.1 0 4
  simp only [List.drop_succ_cons, List.drop_zero, List.take_succ_cons, List.take_zero, Nat.zero_add] at Ev4_1
  clear X0 X1
  have XR := X2
  clear X2
  go_enter Try.func8, Try.ntmps8
  go_wp2_with (first | ((with_reducible refine eload4L rk_v4 Ev4_0 ?_ ?_); focus rfl) | ((with_reducible refine eload4L rk_v4 Ev4_1 ?_ ?_); focus rfl) | (go_at_call 20; refine (same_q _ _).mono ?_; rintro _ _ ⟨rfl, B⟩; (replace BB := bon BB B; replace c3 := cell_below B c3; replace d3 := cell_below B d3; replace Ev4_0 := rangeAt_on Ev4_0 B; replace Ev4_1 := rangeAt_on Ev4_1 B); replace XR := XR.on (Nat.succ_pos _) B; clear B) | (go_at_call 21; refine (oneMinus_b _ _ _ _ _).mono ?_; rintro _ _ ⟨rfl, B⟩; (replace BB := bon BB B; replace c3 := cell_below B c3; replace d3 := cell_below B d3; replace Ev4_0 := rangeAt_on Ev4_0 B; replace Ev4_1 := rangeAt_on Ev4_1 B); replace XR := XR.on (Nat.succ_pos _) B; clear B) | (refine esetL (vs := [.int .i64 t3, .int .i64 t3, .int .i64 t3, .int .i64 t3]) rk_v4 rfl rfl XR rfl rfl (four_one _ _ _ _) ?_; intro V1 X1 B1 hc hf; clear hc hf; have r0 := X1.cell (i := 0) rfl; have r1 := X1.cell (i := 1) rfl; have r2 := X1.cell (i := 2) rfl; have r3 := X1.cell (i := 3) rfl))
  exact bodyPost_ret (v := .agg #[.int .i64 t3, .int .i64 t3, .int .i64 t3, .int .i64 t3]) (by simp [results, Try.results8, go_sem, r0, r1, r2, r3]) rfl ⟨rfl, BB.trans (B1.mono (by omega))⟩

set_option maxRecDepth 100000 in
set_option maxHeartbeats 2000000 in
theorem factor_10 (s0 s1 s2 s3 t0 t1 t2 t3 : Int) (w : World) : Calls Try.prog 8 #[.int .i64 10, .agg #[.int .i64 s0, .int .i64 s1, .int .i64 s2, .int .i64 s3], .agg #[.int .i64 t0, .int .i64 t1, .int .i64 t2, .int .i64 t3]] w fun e w' => e = .returned (.agg #[.int .i64 (subv 65536 t3), .int .i64 (subv 65536 t3), .int .i64 (subv 65536 t3), .int .i64 (subv 65536 t3)]) ∧ Below w.heap.size w w' := by
  have BB := box_below w #[.int .i64 s0, .int .i64 s1, .int .i64 s2, .int .i64 s3] 27
  have X0 := EBox.made w #[.int .i64 s0, .int .i64 s1, .int .i64 s2, .int .i64 s3] 27
  have hsz1 : (w.alloc (.cells #[.int .i64 s0, .int .i64 s1, .int .i64 s2, .int .i64 s3] 27)).heap.size = w.heap.size + 1 := by simp
  have X1 := EBox.made (w.alloc (.cells #[.int .i64 s0, .int .i64 s1, .int .i64 s2, .int .i64 s3] 27)) #[.int .i64 t0, .int .i64 t1, .int .i64 t2, .int .i64 t3] 27
  rw [hsz1] at X1
  replace X0 := X0.on (Nat.succ_pos _) (box_below (w.alloc (.cells #[.int .i64 s0, .int .i64 s1, .int .i64 s2, .int .i64 s3] 27)) #[.int .i64 t0, .int .i64 t1, .int .i64 t2, .int .i64 t3] 27)
  replace BB := bon BB (box_below (w.alloc (.cells #[.int .i64 s0, .int .i64 s1, .int .i64 s2, .int .i64 s3] 27)) #[.int .i64 t0, .int .i64 t1, .int .i64 t2, .int .i64 t3] 27)
  clear hsz1
  have hsz2 : ((w.alloc (.cells #[.int .i64 s0, .int .i64 s1, .int .i64 s2, .int .i64 s3] 27)).alloc (.cells #[.int .i64 t0, .int .i64 t1, .int .i64 t2, .int .i64 t3] 27)).heap.size = w.heap.size + 2 := by simp
  have X2 := EBox.made ((w.alloc (.cells #[.int .i64 s0, .int .i64 s1, .int .i64 s2, .int .i64 s3] 27)).alloc (.cells #[.int .i64 t0, .int .i64 t1, .int .i64 t2, .int .i64 t3] 27)) #[.int .i64 0, .int .i64 0, .int .i64 0, .int .i64 0] 27
  rw [hsz2] at X2
  replace X0 := X0.on (Nat.succ_pos _) (box_below ((w.alloc (.cells #[.int .i64 s0, .int .i64 s1, .int .i64 s2, .int .i64 s3] 27)).alloc (.cells #[.int .i64 t0, .int .i64 t1, .int .i64 t2, .int .i64 t3] 27)) #[.int .i64 0, .int .i64 0, .int .i64 0, .int .i64 0] 27)
  replace X1 := X1.on (Nat.succ_pos _) (box_below ((w.alloc (.cells #[.int .i64 s0, .int .i64 s1, .int .i64 s2, .int .i64 s3] 27)).alloc (.cells #[.int .i64 t0, .int .i64 t1, .int .i64 t2, .int .i64 t3] 27)) #[.int .i64 0, .int .i64 0, .int .i64 0, .int .i64 0] 27)
  replace BB := bon BB (box_below ((w.alloc (.cells #[.int .i64 s0, .int .i64 s1, .int .i64 s2, .int .i64 s3] 27)).alloc (.cells #[.int .i64 t0, .int .i64 t1, .int .i64 t2, .int .i64 t3] 27)) #[.int .i64 0, .int .i64 0, .int .i64 0, .int .i64 0] 27)
  clear hsz2
  have c3 := X0.cell (i := 3) rfl
  have Ev4_0 := range_cut X0.1 0 4
  simp only [List.drop_succ_cons, List.drop_zero, List.take_succ_cons, List.take_zero, Nat.zero_add] at Ev4_0
  have d3 := X1.cell (i := 3) rfl
  have Ev4_1 := range_cut X1.1 0 4
  simp only [List.drop_succ_cons, List.drop_zero, List.take_succ_cons, List.take_zero, Nat.zero_add] at Ev4_1
  clear X0 X1
  have XR := X2
  clear X2
  go_enter Try.func8, Try.ntmps8
  go_wp2_with (first | ((with_reducible refine eload4L rk_v4 Ev4_0 ?_ ?_); focus rfl) | ((with_reducible refine eload4L rk_v4 Ev4_1 ?_ ?_); focus rfl) | (go_at_call 20; refine (same_q _ _).mono ?_; rintro _ _ ⟨rfl, B⟩; (replace BB := bon BB B; replace c3 := cell_below B c3; replace d3 := cell_below B d3; replace Ev4_0 := rangeAt_on Ev4_0 B; replace Ev4_1 := rangeAt_on Ev4_1 B); replace XR := XR.on (Nat.succ_pos _) B; clear B) | (go_at_call 21; refine (oneMinus_b _ _ _ _ _).mono ?_; rintro _ _ ⟨rfl, B⟩; (replace BB := bon BB B; replace c3 := cell_below B c3; replace d3 := cell_below B d3; replace Ev4_0 := rangeAt_on Ev4_0 B; replace Ev4_1 := rangeAt_on Ev4_1 B); replace XR := XR.on (Nat.succ_pos _) B; clear B) | (refine esetL (vs := [.int .i64 (subv 65536 t3), .int .i64 (subv 65536 t3), .int .i64 (subv 65536 t3), .int .i64 (subv 65536 t3)]) rk_v4 rfl rfl XR rfl rfl (four_one _ _ _ _) ?_; intro V1 X1 B1 hc hf; clear hc hf; have r0 := X1.cell (i := 0) rfl; have r1 := X1.cell (i := 1) rfl; have r2 := X1.cell (i := 2) rfl; have r3 := X1.cell (i := 3) rfl))
  exact bodyPost_ret (v := .agg #[.int .i64 (subv 65536 t3), .int .i64 (subv 65536 t3), .int .i64 (subv 65536 t3), .int .i64 (subv 65536 t3)]) (by simp [results, Try.results8, go_sem, r0, r1, r2, r3]) rfl ⟨rfl, BB.trans (B1.mono (by omega))⟩

set_option maxRecDepth 100000 in
set_option maxHeartbeats 2000000 in
theorem factor_0 (f s0 s1 s2 s3 t0 t1 t2 t3 : Int) (h2 : f ≠ 2) (h3 : f ≠ 3) (h4 : f ≠ 4) (h5 : f ≠ 5) (h6 : f ≠ 6) (h7 : f ≠ 7) (h8 : f ≠ 8) (h9 : f ≠ 9) (h10 : f ≠ 10) (w : World) : Calls Try.prog 8 #[.int .i64 f, .agg #[.int .i64 s0, .int .i64 s1, .int .i64 s2, .int .i64 s3], .agg #[.int .i64 t0, .int .i64 t1, .int .i64 t2, .int .i64 t3]] w fun e w' => e = .returned (.agg #[.int .i64 0, .int .i64 0, .int .i64 0, .int .i64 0]) ∧ Below w.heap.size w w' := by
  have BB := box_below w #[.int .i64 s0, .int .i64 s1, .int .i64 s2, .int .i64 s3] 27
  have X0 := EBox.made w #[.int .i64 s0, .int .i64 s1, .int .i64 s2, .int .i64 s3] 27
  have hsz1 : (w.alloc (.cells #[.int .i64 s0, .int .i64 s1, .int .i64 s2, .int .i64 s3] 27)).heap.size = w.heap.size + 1 := by simp
  have X1 := EBox.made (w.alloc (.cells #[.int .i64 s0, .int .i64 s1, .int .i64 s2, .int .i64 s3] 27)) #[.int .i64 t0, .int .i64 t1, .int .i64 t2, .int .i64 t3] 27
  rw [hsz1] at X1
  replace X0 := X0.on (Nat.succ_pos _) (box_below (w.alloc (.cells #[.int .i64 s0, .int .i64 s1, .int .i64 s2, .int .i64 s3] 27)) #[.int .i64 t0, .int .i64 t1, .int .i64 t2, .int .i64 t3] 27)
  replace BB := bon BB (box_below (w.alloc (.cells #[.int .i64 s0, .int .i64 s1, .int .i64 s2, .int .i64 s3] 27)) #[.int .i64 t0, .int .i64 t1, .int .i64 t2, .int .i64 t3] 27)
  clear hsz1
  have hsz2 : ((w.alloc (.cells #[.int .i64 s0, .int .i64 s1, .int .i64 s2, .int .i64 s3] 27)).alloc (.cells #[.int .i64 t0, .int .i64 t1, .int .i64 t2, .int .i64 t3] 27)).heap.size = w.heap.size + 2 := by simp
  have X2 := EBox.made ((w.alloc (.cells #[.int .i64 s0, .int .i64 s1, .int .i64 s2, .int .i64 s3] 27)).alloc (.cells #[.int .i64 t0, .int .i64 t1, .int .i64 t2, .int .i64 t3] 27)) #[.int .i64 0, .int .i64 0, .int .i64 0, .int .i64 0] 27
  rw [hsz2] at X2
  replace X0 := X0.on (Nat.succ_pos _) (box_below ((w.alloc (.cells #[.int .i64 s0, .int .i64 s1, .int .i64 s2, .int .i64 s3] 27)).alloc (.cells #[.int .i64 t0, .int .i64 t1, .int .i64 t2, .int .i64 t3] 27)) #[.int .i64 0, .int .i64 0, .int .i64 0, .int .i64 0] 27)
  replace X1 := X1.on (Nat.succ_pos _) (box_below ((w.alloc (.cells #[.int .i64 s0, .int .i64 s1, .int .i64 s2, .int .i64 s3] 27)).alloc (.cells #[.int .i64 t0, .int .i64 t1, .int .i64 t2, .int .i64 t3] 27)) #[.int .i64 0, .int .i64 0, .int .i64 0, .int .i64 0] 27)
  replace BB := bon BB (box_below ((w.alloc (.cells #[.int .i64 s0, .int .i64 s1, .int .i64 s2, .int .i64 s3] 27)).alloc (.cells #[.int .i64 t0, .int .i64 t1, .int .i64 t2, .int .i64 t3] 27)) #[.int .i64 0, .int .i64 0, .int .i64 0, .int .i64 0] 27)
  clear hsz2
  have c3 := X0.cell (i := 3) rfl
  have Ev4_0 := range_cut X0.1 0 4
  simp only [List.drop_succ_cons, List.drop_zero, List.take_succ_cons, List.take_zero, Nat.zero_add] at Ev4_0
  have d3 := X1.cell (i := 3) rfl
  have Ev4_1 := range_cut X1.1 0 4
  simp only [List.drop_succ_cons, List.drop_zero, List.take_succ_cons, List.take_zero, Nat.zero_add] at Ev4_1
  clear X0 X1
  have XR := X2
  clear X2
  go_enter Try.func8, Try.ntmps8
  go_wp2_with (first | ((with_reducible refine eload4L rk_v4 Ev4_0 ?_ ?_); focus rfl) | ((with_reducible refine eload4L rk_v4 Ev4_1 ?_ ?_); focus rfl) | (go_at_call 20; refine (same_q _ _).mono ?_; rintro _ _ ⟨rfl, B⟩; (replace BB := bon BB B; replace c3 := cell_below B c3; replace d3 := cell_below B d3; replace Ev4_0 := rangeAt_on Ev4_0 B; replace Ev4_1 := rangeAt_on Ev4_1 B); replace XR := XR.on (Nat.succ_pos _) B; clear B) | (go_at_call 21; refine (oneMinus_b _ _ _ _ _).mono ?_; rintro _ _ ⟨rfl, B⟩; (replace BB := bon BB B; replace c3 := cell_below B c3; replace d3 := cell_below B d3; replace Ev4_0 := rangeAt_on Ev4_0 B; replace Ev4_1 := rangeAt_on Ev4_1 B); replace XR := XR.on (Nat.succ_pos _) B; clear B) | (refine esetL (vs := [.int .i64 0, .int .i64 0, .int .i64 0, .int .i64 0]) rk_v4 rfl rfl XR rfl rfl (four_one _ _ _ _) ?_; intro V1 X1 B1 hc hf; clear hc hf; have r0 := X1.cell (i := 0) rfl; have r1 := X1.cell (i := 1) rfl; have r2 := X1.cell (i := 2) rfl; have r3 := X1.cell (i := 3) rfl))
  exact bodyPost_ret (v := .agg #[.int .i64 0, .int .i64 0, .int .i64 0, .int .i64 0]) (by simp [results, Try.results8, go_sem, r0, r1, r2, r3]) rfl ⟨rfl, BB.trans (B1.mono (by omega))⟩

theorem factor_b (f s0 s1 s2 s3 t0 t1 t2 t3 : Int) (w : World) : Calls Try.prog 8 #[.int .i64 f, .agg #[.int .i64 s0, .int .i64 s1, .int .i64 s2, .int .i64 s3], .agg #[.int .i64 t0, .int .i64 t1, .int .i64 t2, .int .i64 t3]] w fun e w' => e = .returned (.agg #[.int .i64 (facv f s0 s3 t0 t3), .int .i64 (facv f s1 s3 t1 t3), .int .i64 (facv f s2 s3 t2 t3), .int .i64 (facv f s3 s3 t3 t3)]) ∧ Below w.heap.size w w' := by
  rcases f_cases f with rfl | rfl | rfl | rfl | rfl | rfl | rfl | rfl | rfl | ⟨h2, h3, h4, h5, h6, h7, h8, h9, h10⟩
  · have e : ∀ a b, facv 2 a s3 b t3 = 65536 := fun a b => by simp [facv]
    simp only [e]
    exact factor_2 s0 s1 s2 s3 t0 t1 t2 t3 w
  · have e : ∀ a b, facv 3 a s3 b t3 = a := fun a b => by simp [facv]
    simp only [e]
    exact factor_3 s0 s1 s2 s3 t0 t1 t2 t3 w
  · have e : ∀ a b, facv 4 a s3 b t3 = subv 65536 a := fun a b => by simp [facv]
    simp only [e]
    exact factor_4 s0 s1 s2 s3 t0 t1 t2 t3 w
  · have e : ∀ a b, facv 5 a s3 b t3 = s3 := fun a b => by simp [facv]
    simp only [e]
    exact factor_5 s0 s1 s2 s3 t0 t1 t2 t3 w
  · have e : ∀ a b, facv 6 a s3 b t3 = subv 65536 s3 := fun a b => by simp [facv]
    simp only [e]
    exact factor_6 s0 s1 s2 s3 t0 t1 t2 t3 w
  · have e : ∀ a b, facv 7 a s3 b t3 = b := fun a b => by simp [facv]
    simp only [e]
    exact factor_7 s0 s1 s2 s3 t0 t1 t2 t3 w
  · have e : ∀ a b, facv 8 a s3 b t3 = subv 65536 b := fun a b => by simp [facv]
    simp only [e]
    exact factor_8 s0 s1 s2 s3 t0 t1 t2 t3 w
  · have e : ∀ a b, facv 9 a s3 b t3 = t3 := fun a b => by simp [facv]
    simp only [e]
    exact factor_9 s0 s1 s2 s3 t0 t1 t2 t3 w
  · have e : ∀ a b, facv 10 a s3 b t3 = subv 65536 t3 := fun a b => by simp [facv]
    simp only [e]
    exact factor_10 s0 s1 s2 s3 t0 t1 t2 t3 w
  · have e : ∀ a b, facv f a s3 b t3 = 0 := fun a b => by simp [facv, h2, h3, h4, h5, h6, h7, h8, h9, h10]
    simp only [e]
    exact factor_0 f s0 s1 s2 s3 t0 t1 t2 t3 h2 h3 h4 h5 h6 h7 h8 h9 h10 w

end Go.Proofs.Ytainijafljpiaaa
