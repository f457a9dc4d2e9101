/- What the calls of the reference of package vec return: the functions over one or two vectors. -/
import Derived.Test.YtcjlgfadjedgbaaVec3
namespace Go.Proofs.Ytcjlgfadjedgbaa
open Go.RowKit Go.Sort

theorem rlist_b (x0 x1 x2 x3 : Int) (w : World) : Calls Try.prog 94 #[.agg #[.int .i64 x0, .int .i64 x1, .int .i64 x2, .int .i64 x3]] w (LIs x0 x1 x2 x3 w) := by
  obtain ⟨a0, a1, a2, a3, BB⟩ := box4 w (.int .i64 x0) (.int .i64 x1) (.int .i64 x2) (.int .i64 x3) 44
  go_enter Try.func94, Try.ntmps94
  go_wp2
  go_ret
  exact ⟨_, rfl, by simp, by simp, by simp, by simp, bon BB (box_below _ _ _)⟩

theorem rcomp_b (x0 x1 x2 x3 i : Int) (w : World) :
    Calls Try.prog 67 #[.agg #[.int .i64 x0, .int .i64 x1, .int .i64 x2, .int .i64 x3], .int .i64 i] w fun e w' => e = .returned (.int .i64 (compv x0 x1 x2 x3 i)) ∧ Below w.heap.size w w' := by
  obtain ⟨a0, a1, a2, a3, BB⟩ := box4 w (.int .i64 x0) (.int .i64 x1) (.int .i64 x2) (.int .i64 x3) 44
  rcases five i with h | rfl | rfl | rfl | rfl
  · have hv : compv x0 x1 x2 x3 i = 0 := by unfold compv; rw [if_neg (by omega), if_neg (by omega), if_neg (by omega), if_neg (by omega)]
    rw [hv]
    clear hv
    rcases h with h | h
    all_goals
      go_enter Try.func67, Try.ntmps67
      go_wp2
      go_ret
      exact ⟨rfl, BB⟩
  all_goals
    go_enter Try.func67, Try.ntmps67
    go_wp2_with (go_at_call 94; refine (rlist_b _ _ _ _ _).mono ?_; rintro _ _ ⟨lb, rfl, l0, l1, l2, l3, B⟩; replace BB := bon BB B)
    go_ret
    exact ⟨ret_int (by simp [compv]), BB⟩

theorem rwith_b (x0 x1 x2 x3 i x : Int) (w : World) :
    Calls Try.prog 73 #[.agg #[.int .i64 x0, .int .i64 x1, .int .i64 x2, .int .i64 x3], .int .i64 i, .int .i64 x] w fun e w' =>
      e = .returned (.agg #[.int .i64 (withv i x 0 x0), .int .i64 (withv i x 1 x1), .int .i64 (withv i x 2 x2), .int .i64 (withv i x 3 x3)]) ∧ Below w.heap.size w w' := by
  obtain ⟨BB, a0, a1, a2, a3, d0, d1, d2, d3, f0, f1, f2, f3⟩ := args1 w (.int .i64 x0) (.int .i64 x1) (.int .i64 x2) (.int .i64 x3) 44
  rcases five i with h | rfl | rfl | rfl | rfl
  · have h0 : ¬ i = 0 := by omega
    have h1 : ¬ i = 1 := by omega
    have h2 : ¬ i = 2 := by omega
    have h3 : ¬ i = 3 := by omega
    have e0 : withv i x 0 x0 = x0 := if_neg h0
    have e1 : withv i x 1 x1 = x1 := if_neg h1
    have e2 : withv i x 2 x2 = x2 := if_neg h2
    have e3 : withv i x 3 x3 = x3 := if_neg h3
    rw [e0, e1, e2, e3]
    clear h e0 e1 e2 e3
    go_enter Try.func73, Try.ntmps73
    go_wp2
    exact bodyPost_ret (v := .agg #[.int .i64 x0, .int .i64 x1, .int .i64 x2, .int .i64 x3]) (by simp [results, Try.results73, go_sem]) rfl ⟨rfl, ((Below.refl _ _).alloc (Nat.le_refl _) _).alloc (by simp) _⟩
  · show Calls _ _ _ _ fun e w' => e = .returned (.agg #[.int .i64 x, .int .i64 x1, .int .i64 x2, .int .i64 x3]) ∧ _
    go_enter Try.func73, Try.ntmps73
    go_wp2
    exact bodyPost_ret (v := .agg #[.int .i64 x, .int .i64 x1, .int .i64 x2, .int .i64 x3]) (by simp [results, Try.results73, go_sem]) rfl ⟨rfl, ((Below.refl _ _).alloc (Nat.le_refl _) _).alloc (by simp) _⟩
  · show Calls _ _ _ _ fun e w' => e = .returned (.agg #[.int .i64 x0, .int .i64 x, .int .i64 x2, .int .i64 x3]) ∧ _
    go_enter Try.func73, Try.ntmps73
    go_wp2
    exact bodyPost_ret (v := .agg #[.int .i64 x0, .int .i64 x, .int .i64 x2, .int .i64 x3]) (by simp [results, Try.results73, go_sem]) rfl ⟨rfl, ((Below.refl _ _).alloc (Nat.le_refl _) _).alloc (by simp) _⟩
  · show Calls _ _ _ _ fun e w' => e = .returned (.agg #[.int .i64 x0, .int .i64 x1, .int .i64 x, .int .i64 x3]) ∧ _
    go_enter Try.func73, Try.ntmps73
    go_wp2
    exact bodyPost_ret (v := .agg #[.int .i64 x0, .int .i64 x1, .int .i64 x, .int .i64 x3]) (by simp [results, Try.results73, go_sem]) rfl ⟨rfl, ((Below.refl _ _).alloc (Nat.le_refl _) _).alloc (by simp) _⟩
  · show Calls _ _ _ _ fun e w' => e = .returned (.agg #[.int .i64 x0, .int .i64 x1, .int .i64 x2, .int .i64 x]) ∧ _
    go_enter Try.func73, Try.ntmps73
    go_wp2
    exact bodyPost_ret (v := .agg #[.int .i64 x0, .int .i64 x1, .int .i64 x2, .int .i64 x]) (by simp [results, Try.results73, go_sem]) rfl ⟨rfl, ((Below.refl _ _).alloc (Nat.le_refl _) _).alloc (by simp) _⟩

end Go.Proofs.Ytcjlgfadjedgbaa
