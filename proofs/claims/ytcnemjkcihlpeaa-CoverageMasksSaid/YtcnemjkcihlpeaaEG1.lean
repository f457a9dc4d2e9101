/- What limit, Function, TopLeft, Accepts of package edge and of the reference return. -/
import Derived.Test.YtcnemjkcihlpeaaEGMath
namespace Go.Proofs.Ytcnemjkcihlpeaa
set_option linter.unusedSimpArgs false
open Go.RowKit Go.Sort Go.ChangeShapes Go.WideShapes
set_option linter.unusedVariables false

theorem limit_b (x : Int) (w : World) : Calls Try.prog 44 #[.int .i64 x] w fun e w' => e = .returned (.int .i64 (onv x)) ∧ Below w.heap.size w w' := by
  go_enter Try.func44, Try.ntmps44
  go_wp2
  all_goals go_ret
  all_goals exact ⟨ret_int (by unfold onv; omega), Below.refl _ _⟩

set_option maxRecDepth 100000 in
set_option maxHeartbeats 1000000 in
theorem efn_b (ax ay bx by' px py : Int) (w : World) : Calls Try.prog 42 #[.int .i64 ax, .int .i64 ay, .int .i64 bx, .int .i64 by', .int .i64 px, .int .i64 py] w fun e w' => e = .returned (.int .i64 (efn ax ay bx by' px py)) ∧ Below w.heap.size w w' := by
  have BB := Below.refl w.heap.size w
  have h1 := onv_bd ax
  have h2 := onv_bd ay
  have h3 := onv_bd bx
  have h4 := onv_bd by'
  have h5 := onv_bd px
  have h6 := onv_bd py
  obtain ⟨h7, h8⟩ := efn_prods ax ay bx by' px py
  go_enter Try.func42, Try.ntmps42
  go_wp2_with (first | (go_at_call 44; refine (limit_b _ _).mono ?_; rintro _ _ ⟨rfl, B⟩; replace BB := bon BB B))
  go_ret
  exact ⟨rfl, BB⟩

set_option maxRecDepth 100000 in
set_option maxHeartbeats 1000000 in
theorem tl_b (ax ay bx by' : Int) (w : World) : Calls Try.prog 43 #[.int .i64 ax, .int .i64 ay, .int .i64 bx, .int .i64 by'] w fun e w' => e = .returned (.bool (tlv ax ay bx by')) ∧ Below w.heap.size w w' := by
  have BB := Below.refl w.heap.size w
  unfold tlv
  rcases (show (onv by' < onv ay ∧ ¬ onv ay = onv by') ∨ (¬ onv by' < onv ay ∧ ¬ onv ay = onv by') ∨ (¬ onv by' < onv ay ∧ onv ay = onv by' ∧ onv ax < onv bx) ∨ (¬ onv by' < onv ay ∧ onv ay = onv by' ∧ ¬ onv ax < onv bx) by omega) with ⟨h1, h2⟩ | ⟨h1, h2⟩ | ⟨h1, h2, h3⟩ | ⟨h1, h2, h3⟩
  all_goals
    go_enter Try.func43, Try.ntmps43
    go_wp2_with (first | (go_at_call 44; refine (limit_b _ _).mono ?_; rintro _ _ ⟨rfl, B⟩; replace BB := bon BB B))
    all_goals go_ret
    all_goals exact ⟨ret_bool (by simp_all), BB⟩

set_option maxRecDepth 100000 in
set_option maxHeartbeats 1000000 in
theorem acc_b (ax ay bx by' px py : Int) (w : World) : Calls Try.prog 37 #[.int .i64 ax, .int .i64 ay, .int .i64 bx, .int .i64 by', .int .i64 px, .int .i64 py] w fun e w' => e = .returned (.bool (acc ax ay bx by' px py)) ∧ Below w.heap.size w w' := by
  have BB := Below.refl w.heap.size w
  have CF := Lib.hid (fun W => efn_b ax ay bx by' px py W)
  have CT := Lib.hid (fun W => tl_b ax ay bx by' W)
  unfold acc
  obtain ⟨f, hf⟩ : ∃ f, efn ax ay bx by' px py = f := ⟨_, rfl⟩
  obtain ⟨t, ht⟩ : ∃ t, tlv ax ay bx by' = t := ⟨_, rfl⟩
  rw [hf] at CF ⊢
  rw [ht] at CT ⊢
  clear hf ht
  rcases (show f < 0 ∨ f = 0 ∨ 0 < f by omega) with h | rfl | h
  all_goals
    go_enter Try.func37, Try.ntmps37
    go_wp2_with (first | (go_at_call 42; refine (CF.out _).mono ?_; rintro _ _ ⟨rfl, B⟩; replace BB := bon BB B) | (go_at_call 43; refine (CT.out _).mono ?_; rintro _ _ ⟨rfl, B⟩; replace BB := bon BB B))
    all_goals go_ret
    all_goals exact ⟨ret_bool (by first | (simp_all; done) | (simp_all; omega) | (simp; omega)), BB⟩

end Go.Proofs.Ytcnemjkcihlpeaa
