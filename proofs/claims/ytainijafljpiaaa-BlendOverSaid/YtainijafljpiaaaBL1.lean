/- What Combine of package blend and of the reference return; same, oneMinus, saturated, Factor, combined. -/
import Derived.Test.YtainijafljpiaaaBLMath
namespace Go.Proofs.Ytainijafljpiaaa
set_option linter.unusedSimpArgs false
open Go.RowKit Go.Sort Go.ChangeShapes Go.WideShapes
set_option linter.unusedVariables false

set_option maxRecDepth 100000 in
set_option maxHeartbeats 1000000 in
theorem combine_b (op s sf t tf : Int) (w : World) : Calls Try.prog 13 #[.int .i64 op, .int .i64 s, .int .i64 sf, .int .i64 t, .int .i64 tf] w fun e w' => e = .returned (.int .i64 (combv op s sf t tf)) ∧ Below w.heap.size w w' := by
  have BB := Below.refl w.heap.size w
  rcases op_cases op with rfl | rfl | rfl | rfl | rfl | ⟨h1, h2, h3, h4, h5⟩
  · rw [show combv 1 s sf t tf = addv (mulv s sf) (mulv t tf) by simp [combv]]
    go_enter Try.func13, Try.ntmps13
    go_wp2_with (first | (go_at_call 32; refine (mul_b _ _ _).mono ?_; rintro _ _ ⟨rfl, B⟩; replace BB := bon BB B) | (go_at_call 31; refine (add_b _ _ _).mono ?_; rintro _ _ ⟨rfl, B⟩; replace BB := bon BB B) | (go_at_call 33; refine (sub_b _ _ _).mono ?_; rintro _ _ ⟨rfl, B⟩; replace BB := bon BB B) | (go_at_call 34; refine (saturate_b _ _).mono ?_; rintro _ _ ⟨rfl, B⟩; replace BB := bon BB B))
    go_ret
    exact ⟨rfl, BB⟩
  · rw [show combv 2 s sf t tf = subv (mulv s sf) (mulv t tf) by simp [combv]]
    go_enter Try.func13, Try.ntmps13
    go_wp2_with (first | (go_at_call 32; refine (mul_b _ _ _).mono ?_; rintro _ _ ⟨rfl, B⟩; replace BB := bon BB B) | (go_at_call 31; refine (add_b _ _ _).mono ?_; rintro _ _ ⟨rfl, B⟩; replace BB := bon BB B) | (go_at_call 33; refine (sub_b _ _ _).mono ?_; rintro _ _ ⟨rfl, B⟩; replace BB := bon BB B) | (go_at_call 34; refine (saturate_b _ _).mono ?_; rintro _ _ ⟨rfl, B⟩; replace BB := bon BB B))
    go_ret
    exact ⟨rfl, BB⟩
  · rw [show combv 3 s sf t tf = subv (mulv t tf) (mulv s sf) by simp [combv]]
    go_enter Try.func13, Try.ntmps13
    go_wp2_with (first | (go_at_call 32; refine (mul_b _ _ _).mono ?_; rintro _ _ ⟨rfl, B⟩; replace BB := bon BB B) | (go_at_call 31; refine (add_b _ _ _).mono ?_; rintro _ _ ⟨rfl, B⟩; replace BB := bon BB B) | (go_at_call 33; refine (sub_b _ _ _).mono ?_; rintro _ _ ⟨rfl, B⟩; replace BB := bon BB B) | (go_at_call 34; refine (saturate_b _ _).mono ?_; rintro _ _ ⟨rfl, B⟩; replace BB := bon BB B))
    go_ret
    exact ⟨rfl, BB⟩
  · rw [show combv 4 s sf t tf = sat (min s t) by simp [combv]]
    rcases Int.lt_or_le s t with q | q
    · rw [show min s t = s by omega]
      go_enter Try.func13, Try.ntmps13
      go_wp2_with (first | (go_at_call 32; refine (mul_b _ _ _).mono ?_; rintro _ _ ⟨rfl, B⟩; replace BB := bon BB B) | (go_at_call 31; refine (add_b _ _ _).mono ?_; rintro _ _ ⟨rfl, B⟩; replace BB := bon BB B) | (go_at_call 33; refine (sub_b _ _ _).mono ?_; rintro _ _ ⟨rfl, B⟩; replace BB := bon BB B) | (go_at_call 34; refine (saturate_b _ _).mono ?_; rintro _ _ ⟨rfl, B⟩; replace BB := bon BB B))
      all_goals go_ret
      all_goals exact ⟨ret_int (by first | rfl | (congr 1; omega) | omega), BB⟩
    · rw [show min s t = t by omega]
      go_enter Try.func13, Try.ntmps13
      go_wp2_with (first | (go_at_call 32; refine (mul_b _ _ _).mono ?_; rintro _ _ ⟨rfl, B⟩; replace BB := bon BB B) | (go_at_call 31; refine (add_b _ _ _).mono ?_; rintro _ _ ⟨rfl, B⟩; replace BB := bon BB B) | (go_at_call 33; refine (sub_b _ _ _).mono ?_; rintro _ _ ⟨rfl, B⟩; replace BB := bon BB B) | (go_at_call 34; refine (saturate_b _ _).mono ?_; rintro _ _ ⟨rfl, B⟩; replace BB := bon BB B))
      all_goals go_ret
      all_goals exact ⟨ret_int (by first | rfl | (congr 1; omega) | omega), BB⟩
  · rw [show combv 5 s sf t tf = sat (max s t) by simp [combv]]
    rcases Int.lt_or_le s t with q | q
    · rw [show max s t = t by omega]
      go_enter Try.func13, Try.ntmps13
      go_wp2_with (first | (go_at_call 32; refine (mul_b _ _ _).mono ?_; rintro _ _ ⟨rfl, B⟩; replace BB := bon BB B) | (go_at_call 31; refine (add_b _ _ _).mono ?_; rintro _ _ ⟨rfl, B⟩; replace BB := bon BB B) | (go_at_call 33; refine (sub_b _ _ _).mono ?_; rintro _ _ ⟨rfl, B⟩; replace BB := bon BB B) | (go_at_call 34; refine (saturate_b _ _).mono ?_; rintro _ _ ⟨rfl, B⟩; replace BB := bon BB B))
      all_goals go_ret
      all_goals exact ⟨ret_int (by first | rfl | (congr 1; omega) | omega), BB⟩
    · rw [show max s t = s by omega]
      go_enter Try.func13, Try.ntmps13
      go_wp2_with (first | (go_at_call 32; refine (mul_b _ _ _).mono ?_; rintro _ _ ⟨rfl, B⟩; replace BB := bon BB B) | (go_at_call 31; refine (add_b _ _ _).mono ?_; rintro _ _ ⟨rfl, B⟩; replace BB := bon BB B) | (go_at_call 33; refine (sub_b _ _ _).mono ?_; rintro _ _ ⟨rfl, B⟩; replace BB := bon BB B) | (go_at_call 34; refine (saturate_b _ _).mono ?_; rintro _ _ ⟨rfl, B⟩; replace BB := bon BB B))
      all_goals go_ret
      all_goals exact ⟨ret_int (by first | rfl | (congr 1; omega) | omega), BB⟩
  · rw [show combv op s sf t tf = 0 by simp [combv, h1, h2, h3, h4, h5]]
    go_enter Try.func13, Try.ntmps13
    go_wp2_with (first | (go_at_call 32; refine (mul_b _ _ _).mono ?_; rintro _ _ ⟨rfl, B⟩; replace BB := bon BB B) | (go_at_call 31; refine (add_b _ _ _).mono ?_; rintro _ _ ⟨rfl, B⟩; replace BB := bon BB B) | (go_at_call 33; refine (sub_b _ _ _).mono ?_; rintro _ _ ⟨rfl, B⟩; replace BB := bon BB B) | (go_at_call 34; refine (saturate_b _ _).mono ?_; rintro _ _ ⟨rfl, B⟩; replace BB := bon BB B))
    go_ret
    exact ⟨rfl, BB⟩

set_option maxRecDepth 100000 in
set_option maxHeartbeats 1000000 in
theorem rcombine_b (op s sf t tf : Int) (w : World) : Calls Try.prog 14 #[.int .i64 op, .int .i64 s, .int .i64 sf, .int .i64 t, .int .i64 tf] w fun e w' => e = .returned (.int .i64 (combv op s sf t tf)) ∧ Below w.heap.size w w' := by
  have BB := Below.refl w.heap.size w
  rcases op_cases op with rfl | rfl | rfl | rfl | rfl | ⟨h1, h2, h3, h4, h5⟩
  · rw [show combv 1 s sf t tf = addv (mulv s sf) (mulv t tf) by simp [combv]]
    go_enter Try.func14, Try.ntmps14
    go_wp2_with (first | (go_at_call 36; refine (rmul_b _ _ _).mono ?_; rintro _ _ ⟨rfl, B⟩; replace BB := bon BB B) | (go_at_call 35; refine (radd_b _ _ _).mono ?_; rintro _ _ ⟨rfl, B⟩; replace BB := bon BB B) | (go_at_call 37; refine (rsub_b _ _ _).mono ?_; rintro _ _ ⟨rfl, B⟩; replace BB := bon BB B) | (go_at_call 28; refine (rsaturate_b _ _).mono ?_; rintro _ _ ⟨rfl, B⟩; replace BB := bon BB B))
    go_ret
    exact ⟨rfl, BB⟩
  · rw [show combv 2 s sf t tf = subv (mulv s sf) (mulv t tf) by simp [combv]]
    go_enter Try.func14, Try.ntmps14
    go_wp2_with (first | (go_at_call 36; refine (rmul_b _ _ _).mono ?_; rintro _ _ ⟨rfl, B⟩; replace BB := bon BB B) | (go_at_call 35; refine (radd_b _ _ _).mono ?_; rintro _ _ ⟨rfl, B⟩; replace BB := bon BB B) | (go_at_call 37; refine (rsub_b _ _ _).mono ?_; rintro _ _ ⟨rfl, B⟩; replace BB := bon BB B) | (go_at_call 28; refine (rsaturate_b _ _).mono ?_; rintro _ _ ⟨rfl, B⟩; replace BB := bon BB B))
    go_ret
    exact ⟨rfl, BB⟩
  · rw [show combv 3 s sf t tf = subv (mulv t tf) (mulv s sf) by simp [combv]]
    go_enter Try.func14, Try.ntmps14
    go_wp2_with (first | (go_at_call 36; refine (rmul_b _ _ _).mono ?_; rintro _ _ ⟨rfl, B⟩; replace BB := bon BB B) | (go_at_call 35; refine (radd_b _ _ _).mono ?_; rintro _ _ ⟨rfl, B⟩; replace BB := bon BB B) | (go_at_call 37; refine (rsub_b _ _ _).mono ?_; rintro _ _ ⟨rfl, B⟩; replace BB := bon BB B) | (go_at_call 28; refine (rsaturate_b _ _).mono ?_; rintro _ _ ⟨rfl, B⟩; replace BB := bon BB B))
    go_ret
    exact ⟨rfl, BB⟩
  · rw [show combv 4 s sf t tf = sat (min s t) by simp [combv]]
    rcases Int.lt_or_le s t with q | q
    · rw [show min s t = s by omega]
      have hm := sat_mono s t (by omega)
      go_enter Try.func14, Try.ntmps14
      go_wp2_with (first | (go_at_call 36; refine (rmul_b _ _ _).mono ?_; rintro _ _ ⟨rfl, B⟩; replace BB := bon BB B) | (go_at_call 35; refine (radd_b _ _ _).mono ?_; rintro _ _ ⟨rfl, B⟩; replace BB := bon BB B) | (go_at_call 37; refine (rsub_b _ _ _).mono ?_; rintro _ _ ⟨rfl, B⟩; replace BB := bon BB B) | (go_at_call 28; refine (rsaturate_b _ _).mono ?_; rintro _ _ ⟨rfl, B⟩; replace BB := bon BB B))
      all_goals go_ret
      all_goals exact ⟨ret_int (by first | rfl | (congr 1; omega) | omega), BB⟩
    · rw [show min s t = t by omega]
      have hm := sat_mono t s q
      go_enter Try.func14, Try.ntmps14
      go_wp2_with (first | (go_at_call 36; refine (rmul_b _ _ _).mono ?_; rintro _ _ ⟨rfl, B⟩; replace BB := bon BB B) | (go_at_call 35; refine (radd_b _ _ _).mono ?_; rintro _ _ ⟨rfl, B⟩; replace BB := bon BB B) | (go_at_call 37; refine (rsub_b _ _ _).mono ?_; rintro _ _ ⟨rfl, B⟩; replace BB := bon BB B) | (go_at_call 28; refine (rsaturate_b _ _).mono ?_; rintro _ _ ⟨rfl, B⟩; replace BB := bon BB B))
      all_goals go_ret
      all_goals exact ⟨ret_int (by first | rfl | (congr 1; omega) | omega), BB⟩
  · rw [show combv 5 s sf t tf = sat (max s t) by simp [combv]]
    rcases Int.lt_or_le s t with q | q
    · rw [show max s t = t by omega]
      have hm := sat_mono s t (by omega)
      go_enter Try.func14, Try.ntmps14
      go_wp2_with (first | (go_at_call 36; refine (rmul_b _ _ _).mono ?_; rintro _ _ ⟨rfl, B⟩; replace BB := bon BB B) | (go_at_call 35; refine (radd_b _ _ _).mono ?_; rintro _ _ ⟨rfl, B⟩; replace BB := bon BB B) | (go_at_call 37; refine (rsub_b _ _ _).mono ?_; rintro _ _ ⟨rfl, B⟩; replace BB := bon BB B) | (go_at_call 28; refine (rsaturate_b _ _).mono ?_; rintro _ _ ⟨rfl, B⟩; replace BB := bon BB B))
      all_goals go_ret
      all_goals exact ⟨ret_int (by first | rfl | (congr 1; omega) | omega), BB⟩
    · rw [show max s t = s by omega]
      have hm := sat_mono t s q
      go_enter Try.func14, Try.ntmps14
      go_wp2_with (first | (go_at_call 36; refine (rmul_b _ _ _).mono ?_; rintro _ _ ⟨rfl, B⟩; replace BB := bon BB B) | (go_at_call 35; refine (radd_b _ _ _).mono ?_; rintro _ _ ⟨rfl, B⟩; replace BB := bon BB B) | (go_at_call 37; refine (rsub_b _ _ _).mono ?_; rintro _ _ ⟨rfl, B⟩; replace BB := bon BB B) | (go_at_call 28; refine (rsaturate_b _ _).mono ?_; rintro _ _ ⟨rfl, B⟩; replace BB := bon BB B))
      all_goals go_ret
      all_goals exact ⟨ret_int (by first | rfl | (congr 1; omega) | omega), BB⟩
  · rw [show combv op s sf t tf = 0 by simp [combv, h1, h2, h3, h4, h5]]
    go_enter Try.func14, Try.ntmps14
    go_wp2_with (first | (go_at_call 36; refine (rmul_b _ _ _).mono ?_; rintro _ _ ⟨rfl, B⟩; replace BB := bon BB B) | (go_at_call 35; refine (radd_b _ _ _).mono ?_; rintro _ _ ⟨rfl, B⟩; replace BB := bon BB B) | (go_at_call 37; refine (rsub_b _ _ _).mono ?_; rintro _ _ ⟨rfl, B⟩; replace BB := bon BB B) | (go_at_call 28; refine (rsaturate_b _ _).mono ?_; rintro _ _ ⟨rfl, B⟩; replace BB := bon BB B))
    go_ret
    exact ⟨rfl, BB⟩

theorem same_q (x : Int) (w : World) : Calls Try.prog 20 #[.int .i64 x] w fun e w' => e = .returned (.agg #[.int .i64 x, .int .i64 x, .int .i64 x, .int .i64 x]) ∧ Below w.heap.size w w' := by
  have B4 := box_below w #[.int .i64 x, .int .i64 x, .int .i64 x, .int .i64 x] 27
  go_enter Try.func20, Try.ntmps20
  go_wp2
  exact bodyPost_ret (by simp [results, Try.results20, go_sem]) rfl ⟨rfl, B4⟩

end Go.Proofs.Ytainijafljpiaaa
