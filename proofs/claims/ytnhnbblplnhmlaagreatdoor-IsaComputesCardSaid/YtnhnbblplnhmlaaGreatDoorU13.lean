/- The walk of IsaComputes (seat .ZD). -/
import Derived.Test.YtnhnbblplnhmlaaGreatDoorU10
import Derived.Test.YtnhnbblplnhmlaaGreatDoorUR5
namespace Go.Proofs.YtnhnbblplnhmlaaGreatDoor
set_option linter.unusedSimpArgs false
open Go.RowKit Go.Sort Go.ChangeShapes Go.WideShapes
set_option linter.unusedVariables false

set_option maxRecDepth 100000 in
set_option maxHeartbeats 4000000 in
theorem computes_walk (x : In) (w : World) (LL : Lay6 w) : Calls Tryz.prog 3 #[.agg (inA x)] w fun e w' => e = .returned (.bool true) ∧ Below w.heap.size w w' := by
  obtain ⟨c0, c1, c2, c3, c4, c5, BB⟩ := boxI w x 24
  have CC := Lib.hid (fun W => compute_b x.o x.a x.b x.c x.i W)
  have RR := Lib.hid (fun W => rcompute_b x.o x.a x.b x.c x.i W)
  obtain ⟨X, hX⟩ : ∃ X, comp x.o x.a x.b x.c x.i = X := ⟨_, rfl⟩
  rw [hX] at CC RR
  have HX := Lib.hid (fun W (h : Below w.heap.size w W) => example_b W (LL.on h))
  clear hX LL
  go_enter Tryz.func3, Tryz.ntmps3
  go_wp2_with fail
  have k_c0 := cell_regrown c0
  have k_c2 := cell_regrown c2
  have k_c3 := cell_regrown c3
  have k_c4 := cell_regrown c4
  have k_c5 := cell_regrown c5
  refine wp_region_quiet_below (by kernel_rfl) (by kernel_rfl) ?_
  repeat (first | go_big_quiet_step ((first | (go_at_call 7; with_reducible exact Calls.regrown_of (CC.out _)) | (go_at_call 8; with_reducible exact Calls.regrown_of (RR.out _)) | (go_at_call 9; with_reducible exact Calls.regrown_of (HX.out _ (bon BB (below_regrown _ _ _)))))) | quiet_step ((first | (go_at_call 7; with_reducible exact Calls.regrown_of (CC.out _)) | (go_at_call 8; with_reducible exact Calls.regrown_of (RR.out _)) | (go_at_call 9; with_reducible exact Calls.regrown_of (HX.out _ (bon BB (below_regrown _ _ _)))))))
  refine wpQuiet_nil ?_
  intro W hw'
  have B := below_regrown' hw'
  clear hw' k_c0 k_c2 k_c3 k_c4 k_c5
  replace BB := bon BB B
  replace c0 := cell_below B c0
  replace c2 := cell_below B c2
  replace c3 := cell_below B c3
  replace c4 := cell_below B c4
  replace c5 := cell_below B c5
  go_wp2
  go_ret
  exact ⟨rfl, BB⟩

end Go.Proofs.YtnhnbblplnhmlaaGreatDoor
