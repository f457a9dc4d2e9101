/- The walk of IsaValidates. -/
import Derived.Test.YtnhnbblplnhmlaaDoorU10
import Derived.Test.YtnhnbblplnhmlaaDoorUR3
namespace Go.Proofs.YtnhnbblplnhmlaaDoor
set_option linter.unusedSimpArgs false
open Go.RowKit Go.Sort Go.ChangeShapes Go.WideShapes
set_option linter.unusedVariables false

set_option maxRecDepth 100000 in
set_option maxHeartbeats 2000000 in
theorem validates_walk (p : Pr) (A : Option Addr) (n c : Nat) (w : World) (LL : Lay6 w) (R : RdE inC 6 w w.heap.size A n p.cd) (hn : n ≤ 9223372036854775807) : Calls Tryd.prog 4 #[.agg (prA p A n c)] w fun e w' => e = .returned (.bool true) ∧ Below w.heap.size w w' := by
  have BB := box_below w (prA p A n c) 31
  have Epr := rngP w p A n c 31
  have CV := Lib.hid (fun W (h : Below w.heap.size w W) => validate_b p A n c W ((R.below h).more h.size) hn)
  have CR := Lib.hid (fun W (h : Below w.heap.size w W) => rvalidate_b p A n c W ((R.below h).more h.size) hn)
  have HL := Lib.hid (fun W (h : Below w.heap.size w W) => example_b W (LL.on h))
  clear LL R
  go_enter Tryd.func4, Tryd.ntmps4
  go_wp2_with fail
  refine wp_region_quiet_below (by kernel_rfl) (by kernel_rfl) ?_
  repeat (first | (go_big_quiet_want; refine quiet_eload _ _ rfl rk_pr rfl (fun W hW => rangeAt_on Epr (below_regrown' hW)) rfl ?_; go_simp; go_big_quiet_on) | go_big_quiet_step ((first | (go_at_call 18; exact Calls.regrown_of (CV.out _ (bon BB (below_regrown _ _ _)))) | (go_at_call 19; exact Calls.regrown_of (CR.out _ (bon BB (below_regrown _ _ _)))) | (go_at_call 17; exact Calls.regrown_of (HL.out _ (bon BB (below_regrown _ _ _)))))) | quiet_step ((first | (go_at_call 18; exact Calls.regrown_of (CV.out _ (bon BB (below_regrown _ _ _)))) | (go_at_call 19; exact Calls.regrown_of (CR.out _ (bon BB (below_regrown _ _ _)))) | (go_at_call 17; exact Calls.regrown_of (HL.out _ (bon BB (below_regrown _ _ _)))))))
  refine wpQuiet_nil ?_
  intro W hw'
  have B := below_regrown' hw'
  clear hw'
  replace BB := bon BB B
  replace Epr := rangeAt_on Epr B
  go_wp2
  go_ret
  exact ⟨rfl, BB⟩

end Go.Proofs.YtnhnbblplnhmlaaDoor
