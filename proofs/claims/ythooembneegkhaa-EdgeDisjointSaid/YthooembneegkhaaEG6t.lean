/- EdgeDisjoint: one case. -/
import Derived.Test.YthooembneegkhaaEG6
namespace Go.Proofs.Ythooembneegkhaa
set_option linter.unusedSimpArgs false
open Go.RowKit Go.Sort Go.ChangeShapes Go.WideShapes
set_option linter.unusedVariables false

set_option maxRecDepth 100000 in
set_option maxHeartbeats 8000000 in
theorem disjoint_t (e0 e1 e2 e3 e4 e5 e6 e7 px py : Int) (hx : cov ⟨e0, e1, 0, 0, none, 0, 0⟩ ⟨e2, e3, 0, 0, none, 0, 0⟩ ⟨e4, e5, 0, 0, none, 0, 0⟩ px py = true) (hy : cov ⟨e2, e3, 0, 0, none, 0, 0⟩ ⟨e0, e1, 0, 0, none, 0, 0⟩ ⟨e6, e7, 0, 0, none, 0, 0⟩ px py = false) (hv : trv ⟨e0, e1, 0, 0, none, 0, 0⟩ ⟨e2, e3, 0, 0, none, 0, 0⟩ ⟨e4, e5, 0, 0, none, 0, 0⟩ = true) (w : World) : Calls Try.prog 7 #[.agg #[.int .i64 e0, .int .i64 e1, .int .i64 e2, .int .i64 e3, .int .i64 e4, .int .i64 e5, .int .i64 e6, .int .i64 e7], .agg #[.int .i64 px, .int .i64 py]] w fun e w' => e = .returned (.bool true) ∧ Below w.heap.size w w' := by
  have CT := Lib.hid (fun W => triangle_b e0 e1 e2 e3 e4 e5 W)
  have CS := Lib.hid (fun W => triangle_b e2 e3 e0 e1 e6 e7 W)
  have cx := fun W => cov_at ⟨e0, e1, 0, 0, none, 0, 0⟩ ⟨e2, e3, 0, 0, none, 0, 0⟩ ⟨e4, e5, 0, 0, none, 0, 0⟩ 0 false px py true hx W
  have cy := fun W => cov_at ⟨e2, e3, 0, 0, none, 0, 0⟩ ⟨e0, e1, 0, 0, none, 0, 0⟩ ⟨e6, e7, 0, 0, none, 0, 0⟩ 0 false px py false hy W
  dsimp only at cx cy
  have CX := Lib.hid cx
  have CY := Lib.hid cy
  clear cx cy
  have cv := fun W => valid_at ⟨e0, e1, 0, 0, none, 0, 0⟩ ⟨e2, e3, 0, 0, none, 0, 0⟩ ⟨e4, e5, 0, 0, none, 0, 0⟩ 0 false true hv W
  dsimp only at cv
  have CV := Lib.hid cv
  clear cv
  clear hx hy hv
  have BB := box_below w #[.int .i64 e0, .int .i64 e1, .int .i64 e2, .int .i64 e3, .int .i64 e4, .int .i64 e5, .int .i64 e6, .int .i64 e7] 44
  have X0 := EBox.made w #[.int .i64 e0, .int .i64 e1, .int .i64 e2, .int .i64 e3, .int .i64 e4, .int .i64 e5, .int .i64 e6, .int .i64 e7] 44
  have hsz1 : (w.alloc (.cells #[.int .i64 e0, .int .i64 e1, .int .i64 e2, .int .i64 e3, .int .i64 e4, .int .i64 e5, .int .i64 e6, .int .i64 e7] 44)).heap.size = w.heap.size + 1 := by simp
  have X1 := EBox.made (w.alloc (.cells #[.int .i64 e0, .int .i64 e1, .int .i64 e2, .int .i64 e3, .int .i64 e4, .int .i64 e5, .int .i64 e6, .int .i64 e7] 44)) #[.int .i64 px, .int .i64 py] 22
  rw [hsz1] at X1
  replace X0 := X0.on (Nat.succ_pos _) (box_below (w.alloc (.cells #[.int .i64 e0, .int .i64 e1, .int .i64 e2, .int .i64 e3, .int .i64 e4, .int .i64 e5, .int .i64 e6, .int .i64 e7] 44)) #[.int .i64 px, .int .i64 py] 22)
  replace BB := bon BB (box_below (w.alloc (.cells #[.int .i64 e0, .int .i64 e1, .int .i64 e2, .int .i64 e3, .int .i64 e4, .int .i64 e5, .int .i64 e6, .int .i64 e7] 44)) #[.int .i64 px, .int .i64 py] 22)
  clear hsz1
  have Ep2_0 := range_cut X0.1 0 2
  have Ep2_1 := range_cut X0.1 2 2
  have Ep2_2 := range_cut X0.1 4 2
  have Ep2_3 := range_cut X0.1 6 2
  simp only [List.drop_succ_cons, List.drop_zero, List.take_succ_cons, List.take_zero, Nat.zero_add] at Ep2_0 Ep2_1 Ep2_2 Ep2_3
  have p0 := X1.cell (i := 0) rfl
  have p1 := X1.cell (i := 1) rfl
  clear X0 X1
  go_enter Try.func7, Try.ntmps7
  go_wp2_with fail
  have k_p0 := cell_regrown p0
  have k_p1 := cell_regrown p1
  refine wp_region_tree (.read 0 (.read 1 (.read 2 (.read 3 (.fork2 4 (.fork1 5 (.fork1 6 (.fork1 7 .nil))) 5 (.fork1 4 (.fork1 6 (.fork1 7 .nil)))))))) (by kernel_rfl) (by kernel_rfl) ?_
  intro U0 B0
  refine tree_read rfl ?_
  (first | ((try simp only [List.getElem_toArray, List.getElem_cons_succ, List.getElem_cons_zero]); go_big_quiet_want; refine quiet_eload _ _ rfl rk_p2 rfl (fun W hW => rangeAt_on Ep2_0 (below_regrown' hW)) rfl ?_; go_simp; go_big_quiet_on) | ((try simp only [List.getElem_toArray, List.getElem_cons_succ, List.getElem_cons_zero]); go_big_quiet_want; refine quiet_eload _ _ rfl rk_p2 rfl (fun W hW => rangeAt_on Ep2_1 (below_regrown' hW)) rfl ?_; go_simp; go_big_quiet_on) | ((try simp only [List.getElem_toArray, List.getElem_cons_succ, List.getElem_cons_zero]); go_big_quiet_want; refine quiet_eload _ _ rfl rk_p2 rfl (fun W hW => rangeAt_on Ep2_2 (below_regrown' hW)) rfl ?_; go_simp; go_big_quiet_on) | ((try simp only [List.getElem_toArray, List.getElem_cons_succ, List.getElem_cons_zero]); go_big_quiet_want; refine quiet_eload _ _ rfl rk_p2 rfl (fun W hW => rangeAt_on Ep2_3 (below_regrown' hW)) rfl ?_; go_simp; go_big_quiet_on) | go_big_quiet_step (fail) | quiet_step (fail))
  refine wpQuiet_nil ?_
  refine tree_read rfl ?_
  (first | ((try simp only [List.getElem_toArray, List.getElem_cons_succ, List.getElem_cons_zero]); go_big_quiet_want; refine quiet_eload _ _ rfl rk_p2 rfl (fun W hW => rangeAt_on Ep2_0 (below_regrown' hW)) rfl ?_; go_simp; go_big_quiet_on) | ((try simp only [List.getElem_toArray, List.getElem_cons_succ, List.getElem_cons_zero]); go_big_quiet_want; refine quiet_eload _ _ rfl rk_p2 rfl (fun W hW => rangeAt_on Ep2_1 (below_regrown' hW)) rfl ?_; go_simp; go_big_quiet_on) | ((try simp only [List.getElem_toArray, List.getElem_cons_succ, List.getElem_cons_zero]); go_big_quiet_want; refine quiet_eload _ _ rfl rk_p2 rfl (fun W hW => rangeAt_on Ep2_2 (below_regrown' hW)) rfl ?_; go_simp; go_big_quiet_on) | ((try simp only [List.getElem_toArray, List.getElem_cons_succ, List.getElem_cons_zero]); go_big_quiet_want; refine quiet_eload _ _ rfl rk_p2 rfl (fun W hW => rangeAt_on Ep2_3 (below_regrown' hW)) rfl ?_; go_simp; go_big_quiet_on) | go_big_quiet_step (fail) | quiet_step (fail))
  refine wpQuiet_nil ?_
  refine tree_read rfl ?_
  (first | ((try simp only [List.getElem_toArray, List.getElem_cons_succ, List.getElem_cons_zero]); go_big_quiet_want; refine quiet_eload _ _ rfl rk_p2 rfl (fun W hW => rangeAt_on Ep2_0 (below_regrown' hW)) rfl ?_; go_simp; go_big_quiet_on) | ((try simp only [List.getElem_toArray, List.getElem_cons_succ, List.getElem_cons_zero]); go_big_quiet_want; refine quiet_eload _ _ rfl rk_p2 rfl (fun W hW => rangeAt_on Ep2_1 (below_regrown' hW)) rfl ?_; go_simp; go_big_quiet_on) | ((try simp only [List.getElem_toArray, List.getElem_cons_succ, List.getElem_cons_zero]); go_big_quiet_want; refine quiet_eload _ _ rfl rk_p2 rfl (fun W hW => rangeAt_on Ep2_2 (below_regrown' hW)) rfl ?_; go_simp; go_big_quiet_on) | ((try simp only [List.getElem_toArray, List.getElem_cons_succ, List.getElem_cons_zero]); go_big_quiet_want; refine quiet_eload _ _ rfl rk_p2 rfl (fun W hW => rangeAt_on Ep2_3 (below_regrown' hW)) rfl ?_; go_simp; go_big_quiet_on) | go_big_quiet_step (fail) | quiet_step (fail))
  refine wpQuiet_nil ?_
  refine tree_read rfl ?_
  (first | ((try simp only [List.getElem_toArray, List.getElem_cons_succ, List.getElem_cons_zero]); go_big_quiet_want; refine quiet_eload _ _ rfl rk_p2 rfl (fun W hW => rangeAt_on Ep2_0 (below_regrown' hW)) rfl ?_; go_simp; go_big_quiet_on) | ((try simp only [List.getElem_toArray, List.getElem_cons_succ, List.getElem_cons_zero]); go_big_quiet_want; refine quiet_eload _ _ rfl rk_p2 rfl (fun W hW => rangeAt_on Ep2_1 (below_regrown' hW)) rfl ?_; go_simp; go_big_quiet_on) | ((try simp only [List.getElem_toArray, List.getElem_cons_succ, List.getElem_cons_zero]); go_big_quiet_want; refine quiet_eload _ _ rfl rk_p2 rfl (fun W hW => rangeAt_on Ep2_2 (below_regrown' hW)) rfl ?_; go_simp; go_big_quiet_on) | ((try simp only [List.getElem_toArray, List.getElem_cons_succ, List.getElem_cons_zero]); go_big_quiet_want; refine quiet_eload _ _ rfl rk_p2 rfl (fun W hW => rangeAt_on Ep2_3 (below_regrown' hW)) rfl ?_; go_simp; go_big_quiet_on) | go_big_quiet_step (fail) | quiet_step (fail))
  refine wpQuiet_nil ?_
  clear k_p0 k_p1
  replace Ep2_0 := rangeAt_on Ep2_0 B0
  replace Ep2_1 := rangeAt_on Ep2_1 B0
  replace Ep2_2 := rangeAt_on Ep2_2 B0
  replace Ep2_3 := rangeAt_on Ep2_3 B0
  replace p0 := cell_below B0 p0
  replace p1 := cell_below B0 p1
  refine tree_alloc2 rfl rfl zero_p2 zero_p2 (Nat.succ_pos _) (Nat.succ_pos _) (by decide) (fun V h => Ahead.of h) B0 ?_
  intro ba bb V0 hne lba lbb B9 Xba Xbb
  have mba := Nat.le_trans B0.size lba
  have mbb := Nat.le_trans B0.size lbb
  have LL : ∀ a : Addr, a.block < U0.heap.size → V0.cell? a = U0.cell? a := fun a h => B9.cell h
  have BT := bon B0 B9
  clear B9 B0
  refine tree_one rfl ?_
  refine esetL (vs := [.int .i64 e0, .int .i64 e1]) rk_p2 rfl rfl Xba rfl rfl (by simp [Value.oneCell']) ?_
  intro V1 Yba B9 hc9 hf9
  replace LL : ∀ a : Addr, a.block < U0.heap.size → V1.cell? a = U0.cell? a := fun a h => (hc9 a (by omega)).trans (LL a h)
  replace BT := BT.trans (B9.mono mba)
  replace Xbb := Xbb.keep (by omega) hc9 hf9
  replace Xba := Yba
  clear B9 hc9 hf9
  refine ⟨Ahead.of BT, ?_⟩
  refine tree_one rfl ?_
  refine esetL (vs := [.int .i64 e2, .int .i64 e3]) rk_p2 rfl rfl Xbb rfl rfl (by simp [Value.oneCell']) ?_
  intro V2 Ybb B9 hc9 hf9
  replace LL : ∀ a : Addr, a.block < U0.heap.size → V2.cell? a = U0.cell? a := fun a h => (hc9 a (by omega)).trans (LL a h)
  replace BT := BT.trans (B9.mono mbb)
  replace Xba := Xba.keep (by omega) hc9 hf9
  replace Xbb := Ybb
  clear B9 hc9 hf9
  refine ⟨Ahead.of BT, ?_⟩
  refine tree_nil ?_
  replace BB := bon BB BT
  replace Ep2_0 := (fun j v hv => (LL _ (block_lt_of_cell (Ep2_0 j v hv))).trans (Ep2_0 j v hv) : World.rangeAt V2 _ _ _)
  replace Ep2_1 := (fun j v hv => (LL _ (block_lt_of_cell (Ep2_1 j v hv))).trans (Ep2_1 j v hv) : World.rangeAt V2 _ _ _)
  replace Ep2_2 := (fun j v hv => (LL _ (block_lt_of_cell (Ep2_2 j v hv))).trans (Ep2_2 j v hv) : World.rangeAt V2 _ _ _)
  replace Ep2_3 := (fun j v hv => (LL _ (block_lt_of_cell (Ep2_3 j v hv))).trans (Ep2_3 j v hv) : World.rangeAt V2 _ _ _)
  replace p0 := (LL _ (block_lt_of_cell p0)).trans p0
  replace p1 := (LL _ (block_lt_of_cell p1)).trans p1
  clear LL BT mba mbb lba lbb
  have Ep2_4 := range_cut Xba.1 0 2
  have Ep2_5 := range_cut Xbb.1 0 2
  simp only [List.drop_zero, List.take_succ_cons, List.take_zero, Nat.zero_add] at Ep2_4 Ep2_5
  clear Xba Xbb Ep2_0 Ep2_1
  go_wp2_with fail
  go_simp
  have PL : Hid (w.heap.size + 1 < V2.heap.size) := Lib.hid (block_lt_of_cell p0)
  have k_p0 := cell_regrown p0
  have k_p1 := cell_regrown p1
  refine wp_region_tree (.read 0 (.read 1 (.read 2 (.read 3 (.read 5 (.read 6 (.read 7 (.read 8 (.fork3 4 (.fork3 9 (.fork2 10 (.fork1 11 (.fork1 12 (.fork1 13 .nil))) 11 (.fork1 10 (.fork1 12 (.fork1 13 .nil)))) 10 (.fork2 9 (.fork1 11 (.fork1 12 (.fork1 13 .nil))) 11 (.fork1 9 (.fork1 12 (.fork1 13 .nil)))) 11 (.fork2 9 (.fork1 10 (.fork1 12 (.fork1 13 .nil))) 10 (.fork1 9 (.fork1 12 (.fork1 13 .nil))))) 10 (.fork2 4 (.fork2 9 (.fork1 11 (.fork1 12 (.fork1 13 .nil))) 11 (.fork1 9 (.fork1 12 (.fork1 13 .nil)))) 11 (.fork1 4 (.fork1 9 (.fork1 12 (.fork1 13 .nil))))) 11 (.fork2 4 (.fork2 9 (.fork1 10 (.fork1 12 (.fork1 13 .nil))) 10 (.fork1 9 (.fork1 12 (.fork1 13 .nil)))) 10 (.fork1 4 (.fork1 9 (.fork1 12 (.fork1 13 .nil)))))))))))))) (by kernel_rfl) (by kernel_rfl) ?_
  intro U0 BT
  refine tree_read rfl ?_
  (first | ((try simp only [List.getElem_toArray, List.getElem_cons_succ, List.getElem_cons_zero]); go_big_quiet_want; refine quiet_eload _ _ rfl rk_p2 rfl (fun W hW => rangeAt_on Ep2_2 (below_regrown' hW)) rfl ?_; go_simp; go_big_quiet_on) | ((try simp only [List.getElem_toArray, List.getElem_cons_succ, List.getElem_cons_zero]); go_big_quiet_want; refine quiet_eload _ _ rfl rk_p2 rfl (fun W hW => rangeAt_on Ep2_3 (below_regrown' hW)) rfl ?_; go_simp; go_big_quiet_on) | ((try simp only [List.getElem_toArray, List.getElem_cons_succ, List.getElem_cons_zero]); go_big_quiet_want; refine quiet_eload _ _ rfl rk_p2 rfl (fun W hW => rangeAt_on Ep2_4 (below_regrown' hW)) rfl ?_; go_simp; go_big_quiet_on) | ((try simp only [List.getElem_toArray, List.getElem_cons_succ, List.getElem_cons_zero]); go_big_quiet_want; refine quiet_eload _ _ rfl rk_p2 rfl (fun W hW => rangeAt_on Ep2_5 (below_regrown' hW)) rfl ?_; go_simp; go_big_quiet_on) | go_big_quiet_step (fail) | quiet_step (fail))
  refine wpQuiet_nil ?_
  refine tree_read rfl ?_
  (first | ((try simp only [List.getElem_toArray, List.getElem_cons_succ, List.getElem_cons_zero]); go_big_quiet_want; refine quiet_eload _ _ rfl rk_p2 rfl (fun W hW => rangeAt_on Ep2_2 (below_regrown' hW)) rfl ?_; go_simp; go_big_quiet_on) | ((try simp only [List.getElem_toArray, List.getElem_cons_succ, List.getElem_cons_zero]); go_big_quiet_want; refine quiet_eload _ _ rfl rk_p2 rfl (fun W hW => rangeAt_on Ep2_3 (below_regrown' hW)) rfl ?_; go_simp; go_big_quiet_on) | ((try simp only [List.getElem_toArray, List.getElem_cons_succ, List.getElem_cons_zero]); go_big_quiet_want; refine quiet_eload _ _ rfl rk_p2 rfl (fun W hW => rangeAt_on Ep2_4 (below_regrown' hW)) rfl ?_; go_simp; go_big_quiet_on) | ((try simp only [List.getElem_toArray, List.getElem_cons_succ, List.getElem_cons_zero]); go_big_quiet_want; refine quiet_eload _ _ rfl rk_p2 rfl (fun W hW => rangeAt_on Ep2_5 (below_regrown' hW)) rfl ?_; go_simp; go_big_quiet_on) | go_big_quiet_step (fail) | quiet_step (fail))
  refine wpQuiet_nil ?_
  refine tree_read rfl ?_
  (first | ((try simp only [List.getElem_toArray, List.getElem_cons_succ, List.getElem_cons_zero]); go_big_quiet_want; refine quiet_eload _ _ rfl rk_p2 rfl (fun W hW => rangeAt_on Ep2_2 (below_regrown' hW)) rfl ?_; go_simp; go_big_quiet_on) | ((try simp only [List.getElem_toArray, List.getElem_cons_succ, List.getElem_cons_zero]); go_big_quiet_want; refine quiet_eload _ _ rfl rk_p2 rfl (fun W hW => rangeAt_on Ep2_3 (below_regrown' hW)) rfl ?_; go_simp; go_big_quiet_on) | ((try simp only [List.getElem_toArray, List.getElem_cons_succ, List.getElem_cons_zero]); go_big_quiet_want; refine quiet_eload _ _ rfl rk_p2 rfl (fun W hW => rangeAt_on Ep2_4 (below_regrown' hW)) rfl ?_; go_simp; go_big_quiet_on) | ((try simp only [List.getElem_toArray, List.getElem_cons_succ, List.getElem_cons_zero]); go_big_quiet_want; refine quiet_eload _ _ rfl rk_p2 rfl (fun W hW => rangeAt_on Ep2_5 (below_regrown' hW)) rfl ?_; go_simp; go_big_quiet_on) | go_big_quiet_step (fail) | quiet_step (fail))
  refine wpQuiet_nil ?_
  refine tree_read rfl ?_
  (first | ((try simp only [List.getElem_toArray, List.getElem_cons_succ, List.getElem_cons_zero]); go_big_quiet_want; refine quiet_eload _ _ rfl rk_p2 rfl (fun W hW => rangeAt_on Ep2_2 (below_regrown' hW)) rfl ?_; go_simp; go_big_quiet_on) | ((try simp only [List.getElem_toArray, List.getElem_cons_succ, List.getElem_cons_zero]); go_big_quiet_want; refine quiet_eload _ _ rfl rk_p2 rfl (fun W hW => rangeAt_on Ep2_3 (below_regrown' hW)) rfl ?_; go_simp; go_big_quiet_on) | ((try simp only [List.getElem_toArray, List.getElem_cons_succ, List.getElem_cons_zero]); go_big_quiet_want; refine quiet_eload _ _ rfl rk_p2 rfl (fun W hW => rangeAt_on Ep2_4 (below_regrown' hW)) rfl ?_; go_simp; go_big_quiet_on) | ((try simp only [List.getElem_toArray, List.getElem_cons_succ, List.getElem_cons_zero]); go_big_quiet_want; refine quiet_eload _ _ rfl rk_p2 rfl (fun W hW => rangeAt_on Ep2_5 (below_regrown' hW)) rfl ?_; go_simp; go_big_quiet_on) | go_big_quiet_step (fail) | quiet_step (fail))
  refine wpQuiet_nil ?_
  refine tree_read rfl ?_
  (first | ((try simp only [List.getElem_toArray, List.getElem_cons_succ, List.getElem_cons_zero]); go_big_quiet_want; refine quiet_eload _ _ rfl rk_p2 rfl (fun W hW => rangeAt_on Ep2_2 (below_regrown' hW)) rfl ?_; go_simp; go_big_quiet_on) | ((try simp only [List.getElem_toArray, List.getElem_cons_succ, List.getElem_cons_zero]); go_big_quiet_want; refine quiet_eload _ _ rfl rk_p2 rfl (fun W hW => rangeAt_on Ep2_3 (below_regrown' hW)) rfl ?_; go_simp; go_big_quiet_on) | ((try simp only [List.getElem_toArray, List.getElem_cons_succ, List.getElem_cons_zero]); go_big_quiet_want; refine quiet_eload _ _ rfl rk_p2 rfl (fun W hW => rangeAt_on Ep2_4 (below_regrown' hW)) rfl ?_; go_simp; go_big_quiet_on) | ((try simp only [List.getElem_toArray, List.getElem_cons_succ, List.getElem_cons_zero]); go_big_quiet_want; refine quiet_eload _ _ rfl rk_p2 rfl (fun W hW => rangeAt_on Ep2_5 (below_regrown' hW)) rfl ?_; go_simp; go_big_quiet_on) | go_big_quiet_step (fail) | quiet_step (fail))
  refine wpQuiet_nil ?_
  refine tree_read rfl ?_
  (first | ((try simp only [List.getElem_toArray, List.getElem_cons_succ, List.getElem_cons_zero]); go_big_quiet_want; refine quiet_eload _ _ rfl rk_p2 rfl (fun W hW => rangeAt_on Ep2_2 (below_regrown' hW)) rfl ?_; go_simp; go_big_quiet_on) | ((try simp only [List.getElem_toArray, List.getElem_cons_succ, List.getElem_cons_zero]); go_big_quiet_want; refine quiet_eload _ _ rfl rk_p2 rfl (fun W hW => rangeAt_on Ep2_3 (below_regrown' hW)) rfl ?_; go_simp; go_big_quiet_on) | ((try simp only [List.getElem_toArray, List.getElem_cons_succ, List.getElem_cons_zero]); go_big_quiet_want; refine quiet_eload _ _ rfl rk_p2 rfl (fun W hW => rangeAt_on Ep2_4 (below_regrown' hW)) rfl ?_; go_simp; go_big_quiet_on) | ((try simp only [List.getElem_toArray, List.getElem_cons_succ, List.getElem_cons_zero]); go_big_quiet_want; refine quiet_eload _ _ rfl rk_p2 rfl (fun W hW => rangeAt_on Ep2_5 (below_regrown' hW)) rfl ?_; go_simp; go_big_quiet_on) | go_big_quiet_step (fail) | quiet_step (fail))
  refine wpQuiet_nil ?_
  refine tree_read rfl ?_
  (first | ((try simp only [List.getElem_toArray, List.getElem_cons_succ, List.getElem_cons_zero]); go_big_quiet_want; refine quiet_eload _ _ rfl rk_p2 rfl (fun W hW => rangeAt_on Ep2_2 (below_regrown' hW)) rfl ?_; go_simp; go_big_quiet_on) | ((try simp only [List.getElem_toArray, List.getElem_cons_succ, List.getElem_cons_zero]); go_big_quiet_want; refine quiet_eload _ _ rfl rk_p2 rfl (fun W hW => rangeAt_on Ep2_3 (below_regrown' hW)) rfl ?_; go_simp; go_big_quiet_on) | ((try simp only [List.getElem_toArray, List.getElem_cons_succ, List.getElem_cons_zero]); go_big_quiet_want; refine quiet_eload _ _ rfl rk_p2 rfl (fun W hW => rangeAt_on Ep2_4 (below_regrown' hW)) rfl ?_; go_simp; go_big_quiet_on) | ((try simp only [List.getElem_toArray, List.getElem_cons_succ, List.getElem_cons_zero]); go_big_quiet_want; refine quiet_eload _ _ rfl rk_p2 rfl (fun W hW => rangeAt_on Ep2_5 (below_regrown' hW)) rfl ?_; go_simp; go_big_quiet_on) | go_big_quiet_step (fail) | quiet_step (fail))
  refine wpQuiet_nil ?_
  refine tree_read rfl ?_
  (first | ((try simp only [List.getElem_toArray, List.getElem_cons_succ, List.getElem_cons_zero]); go_big_quiet_want; refine quiet_eload _ _ rfl rk_p2 rfl (fun W hW => rangeAt_on Ep2_2 (below_regrown' hW)) rfl ?_; go_simp; go_big_quiet_on) | ((try simp only [List.getElem_toArray, List.getElem_cons_succ, List.getElem_cons_zero]); go_big_quiet_want; refine quiet_eload _ _ rfl rk_p2 rfl (fun W hW => rangeAt_on Ep2_3 (below_regrown' hW)) rfl ?_; go_simp; go_big_quiet_on) | ((try simp only [List.getElem_toArray, List.getElem_cons_succ, List.getElem_cons_zero]); go_big_quiet_want; refine quiet_eload _ _ rfl rk_p2 rfl (fun W hW => rangeAt_on Ep2_4 (below_regrown' hW)) rfl ?_; go_simp; go_big_quiet_on) | ((try simp only [List.getElem_toArray, List.getElem_cons_succ, List.getElem_cons_zero]); go_big_quiet_want; refine quiet_eload _ _ rfl rk_p2 rfl (fun W hW => rangeAt_on Ep2_5 (below_regrown' hW)) rfl ?_; go_simp; go_big_quiet_on) | go_big_quiet_step (fail) | quiet_step (fail))
  refine wpQuiet_nil ?_
  clear k_p0 k_p1 Ep2_2 Ep2_3 Ep2_4 Ep2_5
  replace p0 := cell_below BT p0
  replace p1 := cell_below BT p1
  refine tree_three rfl rfl rfl ?_ ?_ ?_
  · skip
    go_wp2_with (go_at_call 26; (with_reducible refine (CT.out _).mono ?_); rintro _ U1 ⟨rfl, B⟩; replace BT := bon BT B; replace p0 := cell_below B p0; replace p1 := cell_below B p1; clear B)
    refine ⟨Ahead.of BT, ?_⟩
    refine tree_three rfl rfl rfl ?_ ?_ ?_
    · skip
      go_wp2_with (go_at_call 26; (with_reducible refine (CS.out _).mono ?_); rintro _ U2 ⟨rfl, B⟩; replace BT := bon BT B; replace p0 := cell_below B p0; replace p1 := cell_below B p1; clear B)
      refine ⟨Ahead.of BT, ?_⟩
      refine tree_two rfl rfl ?_ ?_
      · skip
        have mbt := BT.size
        refine wpList_allocL zero_tr ⟨Ahead.of (bon BT (box_below _ _ _)), ?_⟩
        have B := box_below U2 #[.int .i64 0, .int .i64 0, .int .i64 0, .int .i64 0, .slice none 0 0, .int .i64 0, .int .i64 0, .int .i64 0, .int .i64 0, .slice none 0 0, .int .i64 0, .int .i64 0, .int .i64 0, .int .i64 0, .slice none 0 0, .int .i64 0, .bool false] 34
        have Xbt := EBox.made U2 #[.int .i64 0, .int .i64 0, .int .i64 0, .int .i64 0, .slice none 0 0, .int .i64 0, .int .i64 0, .int .i64 0, .int .i64 0, .slice none 0 0, .int .i64 0, .int .i64 0, .int .i64 0, .int .i64 0, .slice none 0 0, .int .i64 0, .bool false] 34
        replace BT := bon BT B
        replace p0 := cell_below B p0
        replace p1 := cell_below B p1
        clear B
        generalize U2.alloc (.cells #[.int .i64 0, .int .i64 0, .int .i64 0, .int .i64 0, .slice none 0 0, .int .i64 0, .int .i64 0, .int .i64 0, .int .i64 0, .slice none 0 0, .int .i64 0, .int .i64 0, .int .i64 0, .int .i64 0, .slice none 0 0, .int .i64 0, .bool false] 34) = U3 at *
        generalize U2.heap.size = bt at *
        go_simp
        refine tree_one rfl ?_
        have mbu := BT.size
        have nbtbu := Nat.ne_of_lt (Xbt.lt (Nat.succ_pos _))
        refine wpList_allocL zero_tr ⟨Ahead.of (bon BT (box_below _ _ _)), ?_⟩
        have B := box_below U3 #[.int .i64 0, .int .i64 0, .int .i64 0, .int .i64 0, .slice none 0 0, .int .i64 0, .int .i64 0, .int .i64 0, .int .i64 0, .slice none 0 0, .int .i64 0, .int .i64 0, .int .i64 0, .int .i64 0, .slice none 0 0, .int .i64 0, .bool false] 34
        have Xbu := EBox.made U3 #[.int .i64 0, .int .i64 0, .int .i64 0, .int .i64 0, .slice none 0 0, .int .i64 0, .int .i64 0, .int .i64 0, .int .i64 0, .slice none 0 0, .int .i64 0, .int .i64 0, .int .i64 0, .int .i64 0, .slice none 0 0, .int .i64 0, .bool false] 34
        replace BT := bon BT B
        replace p0 := cell_below B p0
        replace p1 := cell_below B p1
        replace Xbt := Xbt.on (Nat.succ_pos _) B
        clear B
        generalize U3.alloc (.cells #[.int .i64 0, .int .i64 0, .int .i64 0, .int .i64 0, .slice none 0 0, .int .i64 0, .int .i64 0, .int .i64 0, .int .i64 0, .slice none 0 0, .int .i64 0, .int .i64 0, .int .i64 0, .int .i64 0, .slice none 0 0, .int .i64 0, .bool false] 34) = U4 at *
        generalize U3.heap.size = bu at *
        go_simp
        have nbu : bt ≠ bu := nbtbu
        refine tree_one rfl ?_
        refine esetL (vs := [.int .i64 e0, .int .i64 e1, .int .i64 0, .int .i64 0, .slice none 0 0, .int .i64 e2, .int .i64 e3, .int .i64 0, .int .i64 0, .slice none 0 0, .int .i64 e4, .int .i64 e5, .int .i64 0, .int .i64 0, .slice none 0 0, .int .i64 0, .bool false]) rk_tr rfl rfl Xbt rfl rfl (by simp [Value.oneCell']) ?_
        intro U5 Y B9 hc9 hf9
        replace p0 := (hc9 ⟨w.heap.size + 1, 0, none⟩ (by have := block_lt_of_cell p0; have := PL.out; show w.heap.size + 1 ≠ bt; omega)).trans p0
        replace p1 := (hc9 ⟨w.heap.size + 1, 1, none⟩ (by have := PL.out; show w.heap.size + 1 ≠ bt; omega)).trans p1
        replace BT := BT.trans (B9.mono mbt)
        replace Xbu := Xbu.keep (by omega) hc9 hf9
        replace Xbt := Y
        clear B9 hc9 hf9
        refine ⟨Ahead.of BT, ?_⟩
        refine tree_one rfl ?_
        refine esetL (vs := [.int .i64 e2, .int .i64 e3, .int .i64 0, .int .i64 0, .slice none 0 0, .int .i64 e0, .int .i64 e1, .int .i64 0, .int .i64 0, .slice none 0 0, .int .i64 e6, .int .i64 e7, .int .i64 0, .int .i64 0, .slice none 0 0, .int .i64 0, .bool false]) rk_tr rfl rfl Xbu rfl rfl (by simp [Value.oneCell']) ?_
        intro U6 Y B9 hc9 hf9
        replace p0 := (hc9 ⟨w.heap.size + 1, 0, none⟩ (by have := block_lt_of_cell p0; have := PL.out; show w.heap.size + 1 ≠ bu; omega)).trans p0
        replace p1 := (hc9 ⟨w.heap.size + 1, 1, none⟩ (by have := PL.out; show w.heap.size + 1 ≠ bu; omega)).trans p1
        replace BT := BT.trans (B9.mono mbu)
        replace Xbt := Xbt.keep (by omega) hc9 hf9
        replace Xbu := Y
        clear B9 hc9 hf9
        refine ⟨Ahead.of BT, ?_⟩
        refine tree_nil ?_
        replace BB := bon BB BT
        clear BT
        have Etr_0 := range_cut Xbt.1 0 17
        have Etr_1 := range_cut Xbu.1 0 17
        simp only [List.drop_zero, List.take_succ_cons, List.take_zero, Nat.zero_add] at Etr_0 Etr_1
        clear Xbt Xbu CT CS
        go_wp2_with (first | ((with_reducible refine eload17L rk_tr Etr_0 ?_ ?_); focus rfl) | (refine wpList_ungd rfl ?_; (with_reducible refine eload17L rk_tr Etr_0 ?_ ?_); focus rfl) | ((with_reducible refine eload17L rk_tr Etr_1 ?_ ?_); focus rfl) | (refine wpList_ungd rfl ?_; (with_reducible refine eload17L rk_tr Etr_1 ?_ ?_); focus rfl) | (go_at_call 24; (with_reducible refine (CX.out _).mono ?_); rintro _ _ ⟨rfl, B⟩; (replace BB := bon BB B; replace Etr_0 := rangeAt_on Etr_0 B; replace Etr_1 := rangeAt_on Etr_1 B; replace p0 := cell_below B p0; replace p1 := cell_below B p1)) | (go_at_call 24; (with_reducible refine (CY.out _).mono ?_); rintro _ _ ⟨rfl, B⟩; (replace BB := bon BB B; replace Etr_0 := rangeAt_on Etr_0 B; replace Etr_1 := rangeAt_on Etr_1 B; replace p0 := cell_below B p0; replace p1 := cell_below B p1)) | (go_at_call 22; (with_reducible refine (CV.out _).mono ?_); rintro _ _ ⟨rfl, B⟩; (replace BB := bon BB B; replace Etr_0 := rangeAt_on Etr_0 B; replace Etr_1 := rangeAt_on Etr_1 B; replace p0 := cell_below B p0; replace p1 := cell_below B p1)) | (go_at_call 13; (with_reducible refine (example34_b _).mono ?_); rintro _ _ ⟨rfl, B⟩; (replace BB := bon BB B; replace Etr_0 := rangeAt_on Etr_0 B; replace Etr_1 := rangeAt_on Etr_1 B; replace p0 := cell_below B p0; replace p1 := cell_below B p1)))
        go_ret
        exact ⟨rfl, BB⟩
      · skip
        have mbu := BT.size
        refine wpList_allocL zero_tr ⟨Ahead.of (bon BT (box_below _ _ _)), ?_⟩
        have B := box_below U2 #[.int .i64 0, .int .i64 0, .int .i64 0, .int .i64 0, .slice none 0 0, .int .i64 0, .int .i64 0, .int .i64 0, .int .i64 0, .slice none 0 0, .int .i64 0, .int .i64 0, .int .i64 0, .int .i64 0, .slice none 0 0, .int .i64 0, .bool false] 34
        have Xbu := EBox.made U2 #[.int .i64 0, .int .i64 0, .int .i64 0, .int .i64 0, .slice none 0 0, .int .i64 0, .int .i64 0, .int .i64 0, .int .i64 0, .slice none 0 0, .int .i64 0, .int .i64 0, .int .i64 0, .int .i64 0, .slice none 0 0, .int .i64 0, .bool false] 34
        replace BT := bon BT B
        replace p0 := cell_below B p0
        replace p1 := cell_below B p1
        clear B
        generalize U2.alloc (.cells #[.int .i64 0, .int .i64 0, .int .i64 0, .int .i64 0, .slice none 0 0, .int .i64 0, .int .i64 0, .int .i64 0, .int .i64 0, .slice none 0 0, .int .i64 0, .int .i64 0, .int .i64 0, .int .i64 0, .slice none 0 0, .int .i64 0, .bool false] 34) = U7 at *
        generalize U2.heap.size = bu at *
        go_simp
        refine tree_one rfl ?_
        have mbt := BT.size
        have nbubt := Nat.ne_of_lt (Xbu.lt (Nat.succ_pos _))
        refine wpList_allocL zero_tr ⟨Ahead.of (bon BT (box_below _ _ _)), ?_⟩
        have B := box_below U7 #[.int .i64 0, .int .i64 0, .int .i64 0, .int .i64 0, .slice none 0 0, .int .i64 0, .int .i64 0, .int .i64 0, .int .i64 0, .slice none 0 0, .int .i64 0, .int .i64 0, .int .i64 0, .int .i64 0, .slice none 0 0, .int .i64 0, .bool false] 34
        have Xbt := EBox.made U7 #[.int .i64 0, .int .i64 0, .int .i64 0, .int .i64 0, .slice none 0 0, .int .i64 0, .int .i64 0, .int .i64 0, .int .i64 0, .slice none 0 0, .int .i64 0, .int .i64 0, .int .i64 0, .int .i64 0, .slice none 0 0, .int .i64 0, .bool false] 34
        replace BT := bon BT B
        replace p0 := cell_below B p0
        replace p1 := cell_below B p1
        replace Xbu := Xbu.on (Nat.succ_pos _) B
        clear B
        generalize U7.alloc (.cells #[.int .i64 0, .int .i64 0, .int .i64 0, .int .i64 0, .slice none 0 0, .int .i64 0, .int .i64 0, .int .i64 0, .int .i64 0, .slice none 0 0, .int .i64 0, .int .i64 0, .int .i64 0, .int .i64 0, .slice none 0 0, .int .i64 0, .bool false] 34) = U8 at *
        generalize U7.heap.size = bt at *
        go_simp
        have nbu : bt ≠ bu := Ne.symm nbubt
        refine tree_one rfl ?_
        refine esetL (vs := [.int .i64 e0, .int .i64 e1, .int .i64 0, .int .i64 0, .slice none 0 0, .int .i64 e2, .int .i64 e3, .int .i64 0, .int .i64 0, .slice none 0 0, .int .i64 e4, .int .i64 e5, .int .i64 0, .int .i64 0, .slice none 0 0, .int .i64 0, .bool false]) rk_tr rfl rfl Xbt rfl rfl (by simp [Value.oneCell']) ?_
        intro U9 Y B9 hc9 hf9
        replace p0 := (hc9 ⟨w.heap.size + 1, 0, none⟩ (by have := block_lt_of_cell p0; have := PL.out; show w.heap.size + 1 ≠ bt; omega)).trans p0
        replace p1 := (hc9 ⟨w.heap.size + 1, 1, none⟩ (by have := PL.out; show w.heap.size + 1 ≠ bt; omega)).trans p1
        replace BT := BT.trans (B9.mono mbt)
        replace Xbu := Xbu.keep (by omega) hc9 hf9
        replace Xbt := Y
        clear B9 hc9 hf9
        refine ⟨Ahead.of BT, ?_⟩
        refine tree_one rfl ?_
        refine esetL (vs := [.int .i64 e2, .int .i64 e3, .int .i64 0, .int .i64 0, .slice none 0 0, .int .i64 e0, .int .i64 e1, .int .i64 0, .int .i64 0, .slice none 0 0, .int .i64 e6, .int .i64 e7, .int .i64 0, .int .i64 0, .slice none 0 0, .int .i64 0, .bool false]) rk_tr rfl rfl Xbu rfl rfl (by simp [Value.oneCell']) ?_
        intro U10 Y B9 hc9 hf9
        replace p0 := (hc9 ⟨w.heap.size + 1, 0, none⟩ (by have := block_lt_of_cell p0; have := PL.out; show w.heap.size + 1 ≠ bu; omega)).trans p0
        replace p1 := (hc9 ⟨w.heap.size + 1, 1, none⟩ (by have := PL.out; show w.heap.size + 1 ≠ bu; omega)).trans p1
        replace BT := BT.trans (B9.mono mbu)
        replace Xbt := Xbt.keep (by omega) hc9 hf9
        replace Xbu := Y
        clear B9 hc9 hf9
        refine ⟨Ahead.of BT, ?_⟩
        refine tree_nil ?_
        replace BB := bon BB BT
        clear BT
        have Etr_0 := range_cut Xbt.1 0 17
        have Etr_1 := range_cut Xbu.1 0 17
        simp only [List.drop_zero, List.take_succ_cons, List.take_zero, Nat.zero_add] at Etr_0 Etr_1
        clear Xbt Xbu CT CS
        go_wp2_with (first | ((with_reducible refine eload17L rk_tr Etr_0 ?_ ?_); focus rfl) | (refine wpList_ungd rfl ?_; (with_reducible refine eload17L rk_tr Etr_0 ?_ ?_); focus rfl) | ((with_reducible refine eload17L rk_tr Etr_1 ?_ ?_); focus rfl) | (refine wpList_ungd rfl ?_; (with_reducible refine eload17L rk_tr Etr_1 ?_ ?_); focus rfl) | (go_at_call 24; (with_reducible refine (CX.out _).mono ?_); rintro _ _ ⟨rfl, B⟩; (replace BB := bon BB B; replace Etr_0 := rangeAt_on Etr_0 B; replace Etr_1 := rangeAt_on Etr_1 B; replace p0 := cell_below B p0; replace p1 := cell_below B p1)) | (go_at_call 24; (with_reducible refine (CY.out _).mono ?_); rintro _ _ ⟨rfl, B⟩; (replace BB := bon BB B; replace Etr_0 := rangeAt_on Etr_0 B; replace Etr_1 := rangeAt_on Etr_1 B; replace p0 := cell_below B p0; replace p1 := cell_below B p1)) | (go_at_call 22; (with_reducible refine (CV.out _).mono ?_); rintro _ _ ⟨rfl, B⟩; (replace BB := bon BB B; replace Etr_0 := rangeAt_on Etr_0 B; replace Etr_1 := rangeAt_on Etr_1 B; replace p0 := cell_below B p0; replace p1 := cell_below B p1)) | (go_at_call 13; (with_reducible refine (example34_b _).mono ?_); rintro _ _ ⟨rfl, B⟩; (replace BB := bon BB B; replace Etr_0 := rangeAt_on Etr_0 B; replace Etr_1 := rangeAt_on Etr_1 B; replace p0 := cell_below B p0; replace p1 := cell_below B p1)))
        go_ret
        exact ⟨rfl, BB⟩
    · skip
      have mbt := BT.size
      refine wpList_allocL zero_tr ⟨Ahead.of (bon BT (box_below _ _ _)), ?_⟩
      have B := box_below U1 #[.int .i64 0, .int .i64 0, .int .i64 0, .int .i64 0, .slice none 0 0, .int .i64 0, .int .i64 0, .int .i64 0, .int .i64 0, .slice none 0 0, .int .i64 0, .int .i64 0, .int .i64 0, .int .i64 0, .slice none 0 0, .int .i64 0, .bool false] 34
      have Xbt := EBox.made U1 #[.int .i64 0, .int .i64 0, .int .i64 0, .int .i64 0, .slice none 0 0, .int .i64 0, .int .i64 0, .int .i64 0, .int .i64 0, .slice none 0 0, .int .i64 0, .int .i64 0, .int .i64 0, .int .i64 0, .slice none 0 0, .int .i64 0, .bool false] 34
      replace BT := bon BT B
      replace p0 := cell_below B p0
      replace p1 := cell_below B p1
      clear B
      generalize U1.alloc (.cells #[.int .i64 0, .int .i64 0, .int .i64 0, .int .i64 0, .slice none 0 0, .int .i64 0, .int .i64 0, .int .i64 0, .int .i64 0, .slice none 0 0, .int .i64 0, .int .i64 0, .int .i64 0, .int .i64 0, .slice none 0 0, .int .i64 0, .bool false] 34) = U11 at *
      generalize U1.heap.size = bt at *
      go_simp
      refine tree_two rfl rfl ?_ ?_
      · skip
        go_wp2_with (go_at_call 26; (with_reducible refine (CS.out _).mono ?_); rintro _ U12 ⟨rfl, B⟩; replace BT := bon BT B; replace p0 := cell_below B p0; replace p1 := cell_below B p1; replace Xbt := Xbt.on (Nat.succ_pos _) B; clear B)
        refine ⟨Ahead.of BT, ?_⟩
        refine tree_one rfl ?_
        have mbu := BT.size
        have nbtbu := Nat.ne_of_lt (Xbt.lt (Nat.succ_pos _))
        refine wpList_allocL zero_tr ⟨Ahead.of (bon BT (box_below _ _ _)), ?_⟩
        have B := box_below U12 #[.int .i64 0, .int .i64 0, .int .i64 0, .int .i64 0, .slice none 0 0, .int .i64 0, .int .i64 0, .int .i64 0, .int .i64 0, .slice none 0 0, .int .i64 0, .int .i64 0, .int .i64 0, .int .i64 0, .slice none 0 0, .int .i64 0, .bool false] 34
        have Xbu := EBox.made U12 #[.int .i64 0, .int .i64 0, .int .i64 0, .int .i64 0, .slice none 0 0, .int .i64 0, .int .i64 0, .int .i64 0, .int .i64 0, .slice none 0 0, .int .i64 0, .int .i64 0, .int .i64 0, .int .i64 0, .slice none 0 0, .int .i64 0, .bool false] 34
        replace BT := bon BT B
        replace p0 := cell_below B p0
        replace p1 := cell_below B p1
        replace Xbt := Xbt.on (Nat.succ_pos _) B
        clear B
        generalize U12.alloc (.cells #[.int .i64 0, .int .i64 0, .int .i64 0, .int .i64 0, .slice none 0 0, .int .i64 0, .int .i64 0, .int .i64 0, .int .i64 0, .slice none 0 0, .int .i64 0, .int .i64 0, .int .i64 0, .int .i64 0, .slice none 0 0, .int .i64 0, .bool false] 34) = U13 at *
        generalize U12.heap.size = bu at *
        go_simp
        have nbu : bt ≠ bu := nbtbu
        refine tree_one rfl ?_
        refine esetL (vs := [.int .i64 e0, .int .i64 e1, .int .i64 0, .int .i64 0, .slice none 0 0, .int .i64 e2, .int .i64 e3, .int .i64 0, .int .i64 0, .slice none 0 0, .int .i64 e4, .int .i64 e5, .int .i64 0, .int .i64 0, .slice none 0 0, .int .i64 0, .bool false]) rk_tr rfl rfl Xbt rfl rfl (by simp [Value.oneCell']) ?_
        intro U14 Y B9 hc9 hf9
        replace p0 := (hc9 ⟨w.heap.size + 1, 0, none⟩ (by have := block_lt_of_cell p0; have := PL.out; show w.heap.size + 1 ≠ bt; omega)).trans p0
        replace p1 := (hc9 ⟨w.heap.size + 1, 1, none⟩ (by have := PL.out; show w.heap.size + 1 ≠ bt; omega)).trans p1
        replace BT := BT.trans (B9.mono mbt)
        replace Xbu := Xbu.keep (by omega) hc9 hf9
        replace Xbt := Y
        clear B9 hc9 hf9
        refine ⟨Ahead.of BT, ?_⟩
        refine tree_one rfl ?_
        refine esetL (vs := [.int .i64 e2, .int .i64 e3, .int .i64 0, .int .i64 0, .slice none 0 0, .int .i64 e0, .int .i64 e1, .int .i64 0, .int .i64 0, .slice none 0 0, .int .i64 e6, .int .i64 e7, .int .i64 0, .int .i64 0, .slice none 0 0, .int .i64 0, .bool false]) rk_tr rfl rfl Xbu rfl rfl (by simp [Value.oneCell']) ?_
        intro U15 Y B9 hc9 hf9
        replace p0 := (hc9 ⟨w.heap.size + 1, 0, none⟩ (by have := block_lt_of_cell p0; have := PL.out; show w.heap.size + 1 ≠ bu; omega)).trans p0
        replace p1 := (hc9 ⟨w.heap.size + 1, 1, none⟩ (by have := PL.out; show w.heap.size + 1 ≠ bu; omega)).trans p1
        replace BT := BT.trans (B9.mono mbu)
        replace Xbt := Xbt.keep (by omega) hc9 hf9
        replace Xbu := Y
        clear B9 hc9 hf9
        refine ⟨Ahead.of BT, ?_⟩
        refine tree_nil ?_
        replace BB := bon BB BT
        clear BT
        have Etr_0 := range_cut Xbt.1 0 17
        have Etr_1 := range_cut Xbu.1 0 17
        simp only [List.drop_zero, List.take_succ_cons, List.take_zero, Nat.zero_add] at Etr_0 Etr_1
        clear Xbt Xbu CT CS
        go_wp2_with (first | ((with_reducible refine eload17L rk_tr Etr_0 ?_ ?_); focus rfl) | (refine wpList_ungd rfl ?_; (with_reducible refine eload17L rk_tr Etr_0 ?_ ?_); focus rfl) | ((with_reducible refine eload17L rk_tr Etr_1 ?_ ?_); focus rfl) | (refine wpList_ungd rfl ?_; (with_reducible refine eload17L rk_tr Etr_1 ?_ ?_); focus rfl) | (go_at_call 24; (with_reducible refine (CX.out _).mono ?_); rintro _ _ ⟨rfl, B⟩; (replace BB := bon BB B; replace Etr_0 := rangeAt_on Etr_0 B; replace Etr_1 := rangeAt_on Etr_1 B; replace p0 := cell_below B p0; replace p1 := cell_below B p1)) | (go_at_call 24; (with_reducible refine (CY.out _).mono ?_); rintro _ _ ⟨rfl, B⟩; (replace BB := bon BB B; replace Etr_0 := rangeAt_on Etr_0 B; replace Etr_1 := rangeAt_on Etr_1 B; replace p0 := cell_below B p0; replace p1 := cell_below B p1)) | (go_at_call 22; (with_reducible refine (CV.out _).mono ?_); rintro _ _ ⟨rfl, B⟩; (replace BB := bon BB B; replace Etr_0 := rangeAt_on Etr_0 B; replace Etr_1 := rangeAt_on Etr_1 B; replace p0 := cell_below B p0; replace p1 := cell_below B p1)) | (go_at_call 13; (with_reducible refine (example34_b _).mono ?_); rintro _ _ ⟨rfl, B⟩; (replace BB := bon BB B; replace Etr_0 := rangeAt_on Etr_0 B; replace Etr_1 := rangeAt_on Etr_1 B; replace p0 := cell_below B p0; replace p1 := cell_below B p1)))
        go_ret
        exact ⟨rfl, BB⟩
      · skip
        have mbu := BT.size
        have nbtbu := Nat.ne_of_lt (Xbt.lt (Nat.succ_pos _))
        refine wpList_allocL zero_tr ⟨Ahead.of (bon BT (box_below _ _ _)), ?_⟩
        have B := box_below U11 #[.int .i64 0, .int .i64 0, .int .i64 0, .int .i64 0, .slice none 0 0, .int .i64 0, .int .i64 0, .int .i64 0, .int .i64 0, .slice none 0 0, .int .i64 0, .int .i64 0, .int .i64 0, .int .i64 0, .slice none 0 0, .int .i64 0, .bool false] 34
        have Xbu := EBox.made U11 #[.int .i64 0, .int .i64 0, .int .i64 0, .int .i64 0, .slice none 0 0, .int .i64 0, .int .i64 0, .int .i64 0, .int .i64 0, .slice none 0 0, .int .i64 0, .int .i64 0, .int .i64 0, .int .i64 0, .slice none 0 0, .int .i64 0, .bool false] 34
        replace BT := bon BT B
        replace p0 := cell_below B p0
        replace p1 := cell_below B p1
        replace Xbt := Xbt.on (Nat.succ_pos _) B
        clear B
        generalize U11.alloc (.cells #[.int .i64 0, .int .i64 0, .int .i64 0, .int .i64 0, .slice none 0 0, .int .i64 0, .int .i64 0, .int .i64 0, .int .i64 0, .slice none 0 0, .int .i64 0, .int .i64 0, .int .i64 0, .int .i64 0, .slice none 0 0, .int .i64 0, .bool false] 34) = U16 at *
        generalize U11.heap.size = bu at *
        go_simp
        refine tree_one rfl ?_
        go_wp2_with (go_at_call 26; (with_reducible refine (CS.out _).mono ?_); rintro _ U17 ⟨rfl, B⟩; replace BT := bon BT B; replace p0 := cell_below B p0; replace p1 := cell_below B p1; replace Xbt := Xbt.on (Nat.succ_pos _) B; replace Xbu := Xbu.on (Nat.succ_pos _) B; clear B)
        refine ⟨Ahead.of BT, ?_⟩
        have nbu : bt ≠ bu := nbtbu
        refine tree_one rfl ?_
        refine esetL (vs := [.int .i64 e0, .int .i64 e1, .int .i64 0, .int .i64 0, .slice none 0 0, .int .i64 e2, .int .i64 e3, .int .i64 0, .int .i64 0, .slice none 0 0, .int .i64 e4, .int .i64 e5, .int .i64 0, .int .i64 0, .slice none 0 0, .int .i64 0, .bool false]) rk_tr rfl rfl Xbt rfl rfl (by simp [Value.oneCell']) ?_
        intro U18 Y B9 hc9 hf9
        replace p0 := (hc9 ⟨w.heap.size + 1, 0, none⟩ (by have := block_lt_of_cell p0; have := PL.out; show w.heap.size + 1 ≠ bt; omega)).trans p0
        replace p1 := (hc9 ⟨w.heap.size + 1, 1, none⟩ (by have := PL.out; show w.heap.size + 1 ≠ bt; omega)).trans p1
        replace BT := BT.trans (B9.mono mbt)
        replace Xbu := Xbu.keep (by omega) hc9 hf9
        replace Xbt := Y
        clear B9 hc9 hf9
        refine ⟨Ahead.of BT, ?_⟩
        refine tree_one rfl ?_
        refine esetL (vs := [.int .i64 e2, .int .i64 e3, .int .i64 0, .int .i64 0, .slice none 0 0, .int .i64 e0, .int .i64 e1, .int .i64 0, .int .i64 0, .slice none 0 0, .int .i64 e6, .int .i64 e7, .int .i64 0, .int .i64 0, .slice none 0 0, .int .i64 0, .bool false]) rk_tr rfl rfl Xbu rfl rfl (by simp [Value.oneCell']) ?_
        intro U19 Y B9 hc9 hf9
        replace p0 := (hc9 ⟨w.heap.size + 1, 0, none⟩ (by have := block_lt_of_cell p0; have := PL.out; show w.heap.size + 1 ≠ bu; omega)).trans p0
        replace p1 := (hc9 ⟨w.heap.size + 1, 1, none⟩ (by have := PL.out; show w.heap.size + 1 ≠ bu; omega)).trans p1
        replace BT := BT.trans (B9.mono mbu)
        replace Xbt := Xbt.keep (by omega) hc9 hf9
        replace Xbu := Y
        clear B9 hc9 hf9
        refine ⟨Ahead.of BT, ?_⟩
        refine tree_nil ?_
        replace BB := bon BB BT
        clear BT
        have Etr_0 := range_cut Xbt.1 0 17
        have Etr_1 := range_cut Xbu.1 0 17
        simp only [List.drop_zero, List.take_succ_cons, List.take_zero, Nat.zero_add] at Etr_0 Etr_1
        clear Xbt Xbu CT CS
        go_wp2_with (first | ((with_reducible refine eload17L rk_tr Etr_0 ?_ ?_); focus rfl) | (refine wpList_ungd rfl ?_; (with_reducible refine eload17L rk_tr Etr_0 ?_ ?_); focus rfl) | ((with_reducible refine eload17L rk_tr Etr_1 ?_ ?_); focus rfl) | (refine wpList_ungd rfl ?_; (with_reducible refine eload17L rk_tr Etr_1 ?_ ?_); focus rfl) | (go_at_call 24; (with_reducible refine (CX.out _).mono ?_); rintro _ _ ⟨rfl, B⟩; (replace BB := bon BB B; replace Etr_0 := rangeAt_on Etr_0 B; replace Etr_1 := rangeAt_on Etr_1 B; replace p0 := cell_below B p0; replace p1 := cell_below B p1)) | (go_at_call 24; (with_reducible refine (CY.out _).mono ?_); rintro _ _ ⟨rfl, B⟩; (replace BB := bon BB B; replace Etr_0 := rangeAt_on Etr_0 B; replace Etr_1 := rangeAt_on Etr_1 B; replace p0 := cell_below B p0; replace p1 := cell_below B p1)) | (go_at_call 22; (with_reducible refine (CV.out _).mono ?_); rintro _ _ ⟨rfl, B⟩; (replace BB := bon BB B; replace Etr_0 := rangeAt_on Etr_0 B; replace Etr_1 := rangeAt_on Etr_1 B; replace p0 := cell_below B p0; replace p1 := cell_below B p1)) | (go_at_call 13; (with_reducible refine (example34_b _).mono ?_); rintro _ _ ⟨rfl, B⟩; (replace BB := bon BB B; replace Etr_0 := rangeAt_on Etr_0 B; replace Etr_1 := rangeAt_on Etr_1 B; replace p0 := cell_below B p0; replace p1 := cell_below B p1)))
        go_ret
        exact ⟨rfl, BB⟩
    · skip
      have mbu := BT.size
      refine wpList_allocL zero_tr ⟨Ahead.of (bon BT (box_below _ _ _)), ?_⟩
      have B := box_below U1 #[.int .i64 0, .int .i64 0, .int .i64 0, .int .i64 0, .slice none 0 0, .int .i64 0, .int .i64 0, .int .i64 0, .int .i64 0, .slice none 0 0, .int .i64 0, .int .i64 0, .int .i64 0, .int .i64 0, .slice none 0 0, .int .i64 0, .bool false] 34
      have Xbu := EBox.made U1 #[.int .i64 0, .int .i64 0, .int .i64 0, .int .i64 0, .slice none 0 0, .int .i64 0, .int .i64 0, .int .i64 0, .int .i64 0, .slice none 0 0, .int .i64 0, .int .i64 0, .int .i64 0, .int .i64 0, .slice none 0 0, .int .i64 0, .bool false] 34
      replace BT := bon BT B
      replace p0 := cell_below B p0
      replace p1 := cell_below B p1
      clear B
      generalize U1.alloc (.cells #[.int .i64 0, .int .i64 0, .int .i64 0, .int .i64 0, .slice none 0 0, .int .i64 0, .int .i64 0, .int .i64 0, .int .i64 0, .slice none 0 0, .int .i64 0, .int .i64 0, .int .i64 0, .int .i64 0, .slice none 0 0, .int .i64 0, .bool false] 34) = U20 at *
      generalize U1.heap.size = bu at *
      go_simp
      refine tree_two rfl rfl ?_ ?_
      · skip
        go_wp2_with (go_at_call 26; (with_reducible refine (CS.out _).mono ?_); rintro _ U21 ⟨rfl, B⟩; replace BT := bon BT B; replace p0 := cell_below B p0; replace p1 := cell_below B p1; replace Xbu := Xbu.on (Nat.succ_pos _) B; clear B)
        refine ⟨Ahead.of BT, ?_⟩
        refine tree_one rfl ?_
        have mbt := BT.size
        have nbubt := Nat.ne_of_lt (Xbu.lt (Nat.succ_pos _))
        refine wpList_allocL zero_tr ⟨Ahead.of (bon BT (box_below _ _ _)), ?_⟩
        have B := box_below U21 #[.int .i64 0, .int .i64 0, .int .i64 0, .int .i64 0, .slice none 0 0, .int .i64 0, .int .i64 0, .int .i64 0, .int .i64 0, .slice none 0 0, .int .i64 0, .int .i64 0, .int .i64 0, .int .i64 0, .slice none 0 0, .int .i64 0, .bool false] 34
        have Xbt := EBox.made U21 #[.int .i64 0, .int .i64 0, .int .i64 0, .int .i64 0, .slice none 0 0, .int .i64 0, .int .i64 0, .int .i64 0, .int .i64 0, .slice none 0 0, .int .i64 0, .int .i64 0, .int .i64 0, .int .i64 0, .slice none 0 0, .int .i64 0, .bool false] 34
        replace BT := bon BT B
        replace p0 := cell_below B p0
        replace p1 := cell_below B p1
        replace Xbu := Xbu.on (Nat.succ_pos _) B
        clear B
        generalize U21.alloc (.cells #[.int .i64 0, .int .i64 0, .int .i64 0, .int .i64 0, .slice none 0 0, .int .i64 0, .int .i64 0, .int .i64 0, .int .i64 0, .slice none 0 0, .int .i64 0, .int .i64 0, .int .i64 0, .int .i64 0, .slice none 0 0, .int .i64 0, .bool false] 34) = U22 at *
        generalize U21.heap.size = bt at *
        go_simp
        have nbu : bt ≠ bu := Ne.symm nbubt
        refine tree_one rfl ?_
        refine esetL (vs := [.int .i64 e0, .int .i64 e1, .int .i64 0, .int .i64 0, .slice none 0 0, .int .i64 e2, .int .i64 e3, .int .i64 0, .int .i64 0, .slice none 0 0, .int .i64 e4, .int .i64 e5, .int .i64 0, .int .i64 0, .slice none 0 0, .int .i64 0, .bool false]) rk_tr rfl rfl Xbt rfl rfl (by simp [Value.oneCell']) ?_
        intro U23 Y B9 hc9 hf9
        replace p0 := (hc9 ⟨w.heap.size + 1, 0, none⟩ (by have := block_lt_of_cell p0; have := PL.out; show w.heap.size + 1 ≠ bt; omega)).trans p0
        replace p1 := (hc9 ⟨w.heap.size + 1, 1, none⟩ (by have := PL.out; show w.heap.size + 1 ≠ bt; omega)).trans p1
        replace BT := BT.trans (B9.mono mbt)
        replace Xbu := Xbu.keep (by omega) hc9 hf9
        replace Xbt := Y
        clear B9 hc9 hf9
        refine ⟨Ahead.of BT, ?_⟩
        refine tree_one rfl ?_
        refine esetL (vs := [.int .i64 e2, .int .i64 e3, .int .i64 0, .int .i64 0, .slice none 0 0, .int .i64 e0, .int .i64 e1, .int .i64 0, .int .i64 0, .slice none 0 0, .int .i64 e6, .int .i64 e7, .int .i64 0, .int .i64 0, .slice none 0 0, .int .i64 0, .bool false]) rk_tr rfl rfl Xbu rfl rfl (by simp [Value.oneCell']) ?_
        intro U24 Y B9 hc9 hf9
        replace p0 := (hc9 ⟨w.heap.size + 1, 0, none⟩ (by have := block_lt_of_cell p0; have := PL.out; show w.heap.size + 1 ≠ bu; omega)).trans p0
        replace p1 := (hc9 ⟨w.heap.size + 1, 1, none⟩ (by have := PL.out; show w.heap.size + 1 ≠ bu; omega)).trans p1
        replace BT := BT.trans (B9.mono mbu)
        replace Xbt := Xbt.keep (by omega) hc9 hf9
        replace Xbu := Y
        clear B9 hc9 hf9
        refine ⟨Ahead.of BT, ?_⟩
        refine tree_nil ?_
        replace BB := bon BB BT
        clear BT
        have Etr_0 := range_cut Xbt.1 0 17
        have Etr_1 := range_cut Xbu.1 0 17
        simp only [List.drop_zero, List.take_succ_cons, List.take_zero, Nat.zero_add] at Etr_0 Etr_1
        clear Xbt Xbu CT CS
        go_wp2_with (first | ((with_reducible refine eload17L rk_tr Etr_0 ?_ ?_); focus rfl) | (refine wpList_ungd rfl ?_; (with_reducible refine eload17L rk_tr Etr_0 ?_ ?_); focus rfl) | ((with_reducible refine eload17L rk_tr Etr_1 ?_ ?_); focus rfl) | (refine wpList_ungd rfl ?_; (with_reducible refine eload17L rk_tr Etr_1 ?_ ?_); focus rfl) | (go_at_call 24; (with_reducible refine (CX.out _).mono ?_); rintro _ _ ⟨rfl, B⟩; (replace BB := bon BB B; replace Etr_0 := rangeAt_on Etr_0 B; replace Etr_1 := rangeAt_on Etr_1 B; replace p0 := cell_below B p0; replace p1 := cell_below B p1)) | (go_at_call 24; (with_reducible refine (CY.out _).mono ?_); rintro _ _ ⟨rfl, B⟩; (replace BB := bon BB B; replace Etr_0 := rangeAt_on Etr_0 B; replace Etr_1 := rangeAt_on Etr_1 B; replace p0 := cell_below B p0; replace p1 := cell_below B p1)) | (go_at_call 22; (with_reducible refine (CV.out _).mono ?_); rintro _ _ ⟨rfl, B⟩; (replace BB := bon BB B; replace Etr_0 := rangeAt_on Etr_0 B; replace Etr_1 := rangeAt_on Etr_1 B; replace p0 := cell_below B p0; replace p1 := cell_below B p1)) | (go_at_call 13; (with_reducible refine (example34_b _).mono ?_); rintro _ _ ⟨rfl, B⟩; (replace BB := bon BB B; replace Etr_0 := rangeAt_on Etr_0 B; replace Etr_1 := rangeAt_on Etr_1 B; replace p0 := cell_below B p0; replace p1 := cell_below B p1)))
        go_ret
        exact ⟨rfl, BB⟩
      · skip
        have mbt := BT.size
        have nbubt := Nat.ne_of_lt (Xbu.lt (Nat.succ_pos _))
        refine wpList_allocL zero_tr ⟨Ahead.of (bon BT (box_below _ _ _)), ?_⟩
        have B := box_below U20 #[.int .i64 0, .int .i64 0, .int .i64 0, .int .i64 0, .slice none 0 0, .int .i64 0, .int .i64 0, .int .i64 0, .int .i64 0, .slice none 0 0, .int .i64 0, .int .i64 0, .int .i64 0, .int .i64 0, .slice none 0 0, .int .i64 0, .bool false] 34
        have Xbt := EBox.made U20 #[.int .i64 0, .int .i64 0, .int .i64 0, .int .i64 0, .slice none 0 0, .int .i64 0, .int .i64 0, .int .i64 0, .int .i64 0, .slice none 0 0, .int .i64 0, .int .i64 0, .int .i64 0, .int .i64 0, .slice none 0 0, .int .i64 0, .bool false] 34
        replace BT := bon BT B
        replace p0 := cell_below B p0
        replace p1 := cell_below B p1
        replace Xbu := Xbu.on (Nat.succ_pos _) B
        clear B
        generalize U20.alloc (.cells #[.int .i64 0, .int .i64 0, .int .i64 0, .int .i64 0, .slice none 0 0, .int .i64 0, .int .i64 0, .int .i64 0, .int .i64 0, .slice none 0 0, .int .i64 0, .int .i64 0, .int .i64 0, .int .i64 0, .slice none 0 0, .int .i64 0, .bool false] 34) = U25 at *
        generalize U20.heap.size = bt at *
        go_simp
        refine tree_one rfl ?_
        go_wp2_with (go_at_call 26; (with_reducible refine (CS.out _).mono ?_); rintro _ U26 ⟨rfl, B⟩; replace BT := bon BT B; replace p0 := cell_below B p0; replace p1 := cell_below B p1; replace Xbu := Xbu.on (Nat.succ_pos _) B; replace Xbt := Xbt.on (Nat.succ_pos _) B; clear B)
        refine ⟨Ahead.of BT, ?_⟩
        have nbu : bt ≠ bu := Ne.symm nbubt
        refine tree_one rfl ?_
        refine esetL (vs := [.int .i64 e0, .int .i64 e1, .int .i64 0, .int .i64 0, .slice none 0 0, .int .i64 e2, .int .i64 e3, .int .i64 0, .int .i64 0, .slice none 0 0, .int .i64 e4, .int .i64 e5, .int .i64 0, .int .i64 0, .slice none 0 0, .int .i64 0, .bool false]) rk_tr rfl rfl Xbt rfl rfl (by simp [Value.oneCell']) ?_
        intro U27 Y B9 hc9 hf9
        replace p0 := (hc9 ⟨w.heap.size + 1, 0, none⟩ (by have := block_lt_of_cell p0; have := PL.out; show w.heap.size + 1 ≠ bt; omega)).trans p0
        replace p1 := (hc9 ⟨w.heap.size + 1, 1, none⟩ (by have := PL.out; show w.heap.size + 1 ≠ bt; omega)).trans p1
        replace BT := BT.trans (B9.mono mbt)
        replace Xbu := Xbu.keep (by omega) hc9 hf9
        replace Xbt := Y
        clear B9 hc9 hf9
        refine ⟨Ahead.of BT, ?_⟩
        refine tree_one rfl ?_
        refine esetL (vs := [.int .i64 e2, .int .i64 e3, .int .i64 0, .int .i64 0, .slice none 0 0, .int .i64 e0, .int .i64 e1, .int .i64 0, .int .i64 0, .slice none 0 0, .int .i64 e6, .int .i64 e7, .int .i64 0, .int .i64 0, .slice none 0 0, .int .i64 0, .bool false]) rk_tr rfl rfl Xbu rfl rfl (by simp [Value.oneCell']) ?_
        intro U28 Y B9 hc9 hf9
        replace p0 := (hc9 ⟨w.heap.size + 1, 0, none⟩ (by have := block_lt_of_cell p0; have := PL.out; show w.heap.size + 1 ≠ bu; omega)).trans p0
        replace p1 := (hc9 ⟨w.heap.size + 1, 1, none⟩ (by have := PL.out; show w.heap.size + 1 ≠ bu; omega)).trans p1
        replace BT := BT.trans (B9.mono mbu)
        replace Xbt := Xbt.keep (by omega) hc9 hf9
        replace Xbu := Y
        clear B9 hc9 hf9
        refine ⟨Ahead.of BT, ?_⟩
        refine tree_nil ?_
        replace BB := bon BB BT
        clear BT
        have Etr_0 := range_cut Xbt.1 0 17
        have Etr_1 := range_cut Xbu.1 0 17
        simp only [List.drop_zero, List.take_succ_cons, List.take_zero, Nat.zero_add] at Etr_0 Etr_1
        clear Xbt Xbu CT CS
        go_wp2_with (first | ((with_reducible refine eload17L rk_tr Etr_0 ?_ ?_); focus rfl) | (refine wpList_ungd rfl ?_; (with_reducible refine eload17L rk_tr Etr_0 ?_ ?_); focus rfl) | ((with_reducible refine eload17L rk_tr Etr_1 ?_ ?_); focus rfl) | (refine wpList_ungd rfl ?_; (with_reducible refine eload17L rk_tr Etr_1 ?_ ?_); focus rfl) | (go_at_call 24; (with_reducible refine (CX.out _).mono ?_); rintro _ _ ⟨rfl, B⟩; (replace BB := bon BB B; replace Etr_0 := rangeAt_on Etr_0 B; replace Etr_1 := rangeAt_on Etr_1 B; replace p0 := cell_below B p0; replace p1 := cell_below B p1)) | (go_at_call 24; (with_reducible refine (CY.out _).mono ?_); rintro _ _ ⟨rfl, B⟩; (replace BB := bon BB B; replace Etr_0 := rangeAt_on Etr_0 B; replace Etr_1 := rangeAt_on Etr_1 B; replace p0 := cell_below B p0; replace p1 := cell_below B p1)) | (go_at_call 22; (with_reducible refine (CV.out _).mono ?_); rintro _ _ ⟨rfl, B⟩; (replace BB := bon BB B; replace Etr_0 := rangeAt_on Etr_0 B; replace Etr_1 := rangeAt_on Etr_1 B; replace p0 := cell_below B p0; replace p1 := cell_below B p1)) | (go_at_call 13; (with_reducible refine (example34_b _).mono ?_); rintro _ _ ⟨rfl, B⟩; (replace BB := bon BB B; replace Etr_0 := rangeAt_on Etr_0 B; replace Etr_1 := rangeAt_on Etr_1 B; replace p0 := cell_below B p0; replace p1 := cell_below B p1)))
        go_ret
        exact ⟨rfl, BB⟩
  · skip
    have mbt := BT.size
    refine wpList_allocL zero_tr ⟨Ahead.of (bon BT (box_below _ _ _)), ?_⟩
    have B := box_below U0 #[.int .i64 0, .int .i64 0, .int .i64 0, .int .i64 0, .slice none 0 0, .int .i64 0, .int .i64 0, .int .i64 0, .int .i64 0, .slice none 0 0, .int .i64 0, .int .i64 0, .int .i64 0, .int .i64 0, .slice none 0 0, .int .i64 0, .bool false] 34
    have Xbt := EBox.made U0 #[.int .i64 0, .int .i64 0, .int .i64 0, .int .i64 0, .slice none 0 0, .int .i64 0, .int .i64 0, .int .i64 0, .int .i64 0, .slice none 0 0, .int .i64 0, .int .i64 0, .int .i64 0, .int .i64 0, .slice none 0 0, .int .i64 0, .bool false] 34
    replace BT := bon BT B
    replace p0 := cell_below B p0
    replace p1 := cell_below B p1
    clear B
    generalize U0.alloc (.cells #[.int .i64 0, .int .i64 0, .int .i64 0, .int .i64 0, .slice none 0 0, .int .i64 0, .int .i64 0, .int .i64 0, .int .i64 0, .slice none 0 0, .int .i64 0, .int .i64 0, .int .i64 0, .int .i64 0, .slice none 0 0, .int .i64 0, .bool false] 34) = U29 at *
    generalize U0.heap.size = bt at *
    go_simp
    refine tree_two rfl rfl ?_ ?_
    · skip
      go_wp2_with (go_at_call 26; (with_reducible refine (CT.out _).mono ?_); rintro _ U30 ⟨rfl, B⟩; replace BT := bon BT B; replace p0 := cell_below B p0; replace p1 := cell_below B p1; replace Xbt := Xbt.on (Nat.succ_pos _) B; clear B)
      refine ⟨Ahead.of BT, ?_⟩
      refine tree_two rfl rfl ?_ ?_
      · skip
        go_wp2_with (go_at_call 26; (with_reducible refine (CS.out _).mono ?_); rintro _ U31 ⟨rfl, B⟩; replace BT := bon BT B; replace p0 := cell_below B p0; replace p1 := cell_below B p1; replace Xbt := Xbt.on (Nat.succ_pos _) B; clear B)
        refine ⟨Ahead.of BT, ?_⟩
        refine tree_one rfl ?_
        have mbu := BT.size
        have nbtbu := Nat.ne_of_lt (Xbt.lt (Nat.succ_pos _))
        refine wpList_allocL zero_tr ⟨Ahead.of (bon BT (box_below _ _ _)), ?_⟩
        have B := box_below U31 #[.int .i64 0, .int .i64 0, .int .i64 0, .int .i64 0, .slice none 0 0, .int .i64 0, .int .i64 0, .int .i64 0, .int .i64 0, .slice none 0 0, .int .i64 0, .int .i64 0, .int .i64 0, .int .i64 0, .slice none 0 0, .int .i64 0, .bool false] 34
        have Xbu := EBox.made U31 #[.int .i64 0, .int .i64 0, .int .i64 0, .int .i64 0, .slice none 0 0, .int .i64 0, .int .i64 0, .int .i64 0, .int .i64 0, .slice none 0 0, .int .i64 0, .int .i64 0, .int .i64 0, .int .i64 0, .slice none 0 0, .int .i64 0, .bool false] 34
        replace BT := bon BT B
        replace p0 := cell_below B p0
        replace p1 := cell_below B p1
        replace Xbt := Xbt.on (Nat.succ_pos _) B
        clear B
        generalize U31.alloc (.cells #[.int .i64 0, .int .i64 0, .int .i64 0, .int .i64 0, .slice none 0 0, .int .i64 0, .int .i64 0, .int .i64 0, .int .i64 0, .slice none 0 0, .int .i64 0, .int .i64 0, .int .i64 0, .int .i64 0, .slice none 0 0, .int .i64 0, .bool false] 34) = U32 at *
        generalize U31.heap.size = bu at *
        go_simp
        have nbu : bt ≠ bu := nbtbu
        refine tree_one rfl ?_
        refine esetL (vs := [.int .i64 e0, .int .i64 e1, .int .i64 0, .int .i64 0, .slice none 0 0, .int .i64 e2, .int .i64 e3, .int .i64 0, .int .i64 0, .slice none 0 0, .int .i64 e4, .int .i64 e5, .int .i64 0, .int .i64 0, .slice none 0 0, .int .i64 0, .bool false]) rk_tr rfl rfl Xbt rfl rfl (by simp [Value.oneCell']) ?_
        intro U33 Y B9 hc9 hf9
        replace p0 := (hc9 ⟨w.heap.size + 1, 0, none⟩ (by have := block_lt_of_cell p0; have := PL.out; show w.heap.size + 1 ≠ bt; omega)).trans p0
        replace p1 := (hc9 ⟨w.heap.size + 1, 1, none⟩ (by have := PL.out; show w.heap.size + 1 ≠ bt; omega)).trans p1
        replace BT := BT.trans (B9.mono mbt)
        replace Xbu := Xbu.keep (by omega) hc9 hf9
        replace Xbt := Y
        clear B9 hc9 hf9
        refine ⟨Ahead.of BT, ?_⟩
        refine tree_one rfl ?_
        refine esetL (vs := [.int .i64 e2, .int .i64 e3, .int .i64 0, .int .i64 0, .slice none 0 0, .int .i64 e0, .int .i64 e1, .int .i64 0, .int .i64 0, .slice none 0 0, .int .i64 e6, .int .i64 e7, .int .i64 0, .int .i64 0, .slice none 0 0, .int .i64 0, .bool false]) rk_tr rfl rfl Xbu rfl rfl (by simp [Value.oneCell']) ?_
        intro U34 Y B9 hc9 hf9
        replace p0 := (hc9 ⟨w.heap.size + 1, 0, none⟩ (by have := block_lt_of_cell p0; have := PL.out; show w.heap.size + 1 ≠ bu; omega)).trans p0
        replace p1 := (hc9 ⟨w.heap.size + 1, 1, none⟩ (by have := PL.out; show w.heap.size + 1 ≠ bu; omega)).trans p1
        replace BT := BT.trans (B9.mono mbu)
        replace Xbt := Xbt.keep (by omega) hc9 hf9
        replace Xbu := Y
        clear B9 hc9 hf9
        refine ⟨Ahead.of BT, ?_⟩
        refine tree_nil ?_
        replace BB := bon BB BT
        clear BT
        have Etr_0 := range_cut Xbt.1 0 17
        have Etr_1 := range_cut Xbu.1 0 17
        simp only [List.drop_zero, List.take_succ_cons, List.take_zero, Nat.zero_add] at Etr_0 Etr_1
        clear Xbt Xbu CT CS
        go_wp2_with (first | ((with_reducible refine eload17L rk_tr Etr_0 ?_ ?_); focus rfl) | (refine wpList_ungd rfl ?_; (with_reducible refine eload17L rk_tr Etr_0 ?_ ?_); focus rfl) | ((with_reducible refine eload17L rk_tr Etr_1 ?_ ?_); focus rfl) | (refine wpList_ungd rfl ?_; (with_reducible refine eload17L rk_tr Etr_1 ?_ ?_); focus rfl) | (go_at_call 24; (with_reducible refine (CX.out _).mono ?_); rintro _ _ ⟨rfl, B⟩; (replace BB := bon BB B; replace Etr_0 := rangeAt_on Etr_0 B; replace Etr_1 := rangeAt_on Etr_1 B; replace p0 := cell_below B p0; replace p1 := cell_below B p1)) | (go_at_call 24; (with_reducible refine (CY.out _).mono ?_); rintro _ _ ⟨rfl, B⟩; (replace BB := bon BB B; replace Etr_0 := rangeAt_on Etr_0 B; replace Etr_1 := rangeAt_on Etr_1 B; replace p0 := cell_below B p0; replace p1 := cell_below B p1)) | (go_at_call 22; (with_reducible refine (CV.out _).mono ?_); rintro _ _ ⟨rfl, B⟩; (replace BB := bon BB B; replace Etr_0 := rangeAt_on Etr_0 B; replace Etr_1 := rangeAt_on Etr_1 B; replace p0 := cell_below B p0; replace p1 := cell_below B p1)) | (go_at_call 13; (with_reducible refine (example34_b _).mono ?_); rintro _ _ ⟨rfl, B⟩; (replace BB := bon BB B; replace Etr_0 := rangeAt_on Etr_0 B; replace Etr_1 := rangeAt_on Etr_1 B; replace p0 := cell_below B p0; replace p1 := cell_below B p1)))
        go_ret
        exact ⟨rfl, BB⟩
      · skip
        have mbu := BT.size
        have nbtbu := Nat.ne_of_lt (Xbt.lt (Nat.succ_pos _))
        refine wpList_allocL zero_tr ⟨Ahead.of (bon BT (box_below _ _ _)), ?_⟩
        have B := box_below U30 #[.int .i64 0, .int .i64 0, .int .i64 0, .int .i64 0, .slice none 0 0, .int .i64 0, .int .i64 0, .int .i64 0, .int .i64 0, .slice none 0 0, .int .i64 0, .int .i64 0, .int .i64 0, .int .i64 0, .slice none 0 0, .int .i64 0, .bool false] 34
        have Xbu := EBox.made U30 #[.int .i64 0, .int .i64 0, .int .i64 0, .int .i64 0, .slice none 0 0, .int .i64 0, .int .i64 0, .int .i64 0, .int .i64 0, .slice none 0 0, .int .i64 0, .int .i64 0, .int .i64 0, .int .i64 0, .slice none 0 0, .int .i64 0, .bool false] 34
        replace BT := bon BT B
        replace p0 := cell_below B p0
        replace p1 := cell_below B p1
        replace Xbt := Xbt.on (Nat.succ_pos _) B
        clear B
        generalize U30.alloc (.cells #[.int .i64 0, .int .i64 0, .int .i64 0, .int .i64 0, .slice none 0 0, .int .i64 0, .int .i64 0, .int .i64 0, .int .i64 0, .slice none 0 0, .int .i64 0, .int .i64 0, .int .i64 0, .int .i64 0, .slice none 0 0, .int .i64 0, .bool false] 34) = U35 at *
        generalize U30.heap.size = bu at *
        go_simp
        refine tree_one rfl ?_
        go_wp2_with (go_at_call 26; (with_reducible refine (CS.out _).mono ?_); rintro _ U36 ⟨rfl, B⟩; replace BT := bon BT B; replace p0 := cell_below B p0; replace p1 := cell_below B p1; replace Xbt := Xbt.on (Nat.succ_pos _) B; replace Xbu := Xbu.on (Nat.succ_pos _) B; clear B)
        refine ⟨Ahead.of BT, ?_⟩
        have nbu : bt ≠ bu := nbtbu
        refine tree_one rfl ?_
        refine esetL (vs := [.int .i64 e0, .int .i64 e1, .int .i64 0, .int .i64 0, .slice none 0 0, .int .i64 e2, .int .i64 e3, .int .i64 0, .int .i64 0, .slice none 0 0, .int .i64 e4, .int .i64 e5, .int .i64 0, .int .i64 0, .slice none 0 0, .int .i64 0, .bool false]) rk_tr rfl rfl Xbt rfl rfl (by simp [Value.oneCell']) ?_
        intro U37 Y B9 hc9 hf9
        replace p0 := (hc9 ⟨w.heap.size + 1, 0, none⟩ (by have := block_lt_of_cell p0; have := PL.out; show w.heap.size + 1 ≠ bt; omega)).trans p0
        replace p1 := (hc9 ⟨w.heap.size + 1, 1, none⟩ (by have := PL.out; show w.heap.size + 1 ≠ bt; omega)).trans p1
        replace BT := BT.trans (B9.mono mbt)
        replace Xbu := Xbu.keep (by omega) hc9 hf9
        replace Xbt := Y
        clear B9 hc9 hf9
        refine ⟨Ahead.of BT, ?_⟩
        refine tree_one rfl ?_
        refine esetL (vs := [.int .i64 e2, .int .i64 e3, .int .i64 0, .int .i64 0, .slice none 0 0, .int .i64 e0, .int .i64 e1, .int .i64 0, .int .i64 0, .slice none 0 0, .int .i64 e6, .int .i64 e7, .int .i64 0, .int .i64 0, .slice none 0 0, .int .i64 0, .bool false]) rk_tr rfl rfl Xbu rfl rfl (by simp [Value.oneCell']) ?_
        intro U38 Y B9 hc9 hf9
        replace p0 := (hc9 ⟨w.heap.size + 1, 0, none⟩ (by have := block_lt_of_cell p0; have := PL.out; show w.heap.size + 1 ≠ bu; omega)).trans p0
        replace p1 := (hc9 ⟨w.heap.size + 1, 1, none⟩ (by have := PL.out; show w.heap.size + 1 ≠ bu; omega)).trans p1
        replace BT := BT.trans (B9.mono mbu)
        replace Xbt := Xbt.keep (by omega) hc9 hf9
        replace Xbu := Y
        clear B9 hc9 hf9
        refine ⟨Ahead.of BT, ?_⟩
        refine tree_nil ?_
        replace BB := bon BB BT
        clear BT
        have Etr_0 := range_cut Xbt.1 0 17
        have Etr_1 := range_cut Xbu.1 0 17
        simp only [List.drop_zero, List.take_succ_cons, List.take_zero, Nat.zero_add] at Etr_0 Etr_1
        clear Xbt Xbu CT CS
        go_wp2_with (first | ((with_reducible refine eload17L rk_tr Etr_0 ?_ ?_); focus rfl) | (refine wpList_ungd rfl ?_; (with_reducible refine eload17L rk_tr Etr_0 ?_ ?_); focus rfl) | ((with_reducible refine eload17L rk_tr Etr_1 ?_ ?_); focus rfl) | (refine wpList_ungd rfl ?_; (with_reducible refine eload17L rk_tr Etr_1 ?_ ?_); focus rfl) | (go_at_call 24; (with_reducible refine (CX.out _).mono ?_); rintro _ _ ⟨rfl, B⟩; (replace BB := bon BB B; replace Etr_0 := rangeAt_on Etr_0 B; replace Etr_1 := rangeAt_on Etr_1 B; replace p0 := cell_below B p0; replace p1 := cell_below B p1)) | (go_at_call 24; (with_reducible refine (CY.out _).mono ?_); rintro _ _ ⟨rfl, B⟩; (replace BB := bon BB B; replace Etr_0 := rangeAt_on Etr_0 B; replace Etr_1 := rangeAt_on Etr_1 B; replace p0 := cell_below B p0; replace p1 := cell_below B p1)) | (go_at_call 22; (with_reducible refine (CV.out _).mono ?_); rintro _ _ ⟨rfl, B⟩; (replace BB := bon BB B; replace Etr_0 := rangeAt_on Etr_0 B; replace Etr_1 := rangeAt_on Etr_1 B; replace p0 := cell_below B p0; replace p1 := cell_below B p1)) | (go_at_call 13; (with_reducible refine (example34_b _).mono ?_); rintro _ _ ⟨rfl, B⟩; (replace BB := bon BB B; replace Etr_0 := rangeAt_on Etr_0 B; replace Etr_1 := rangeAt_on Etr_1 B; replace p0 := cell_below B p0; replace p1 := cell_below B p1)))
        go_ret
        exact ⟨rfl, BB⟩
    · skip
      have mbu := BT.size
      have nbtbu := Nat.ne_of_lt (Xbt.lt (Nat.succ_pos _))
      refine wpList_allocL zero_tr ⟨Ahead.of (bon BT (box_below _ _ _)), ?_⟩
      have B := box_below U29 #[.int .i64 0, .int .i64 0, .int .i64 0, .int .i64 0, .slice none 0 0, .int .i64 0, .int .i64 0, .int .i64 0, .int .i64 0, .slice none 0 0, .int .i64 0, .int .i64 0, .int .i64 0, .int .i64 0, .slice none 0 0, .int .i64 0, .bool false] 34
      have Xbu := EBox.made U29 #[.int .i64 0, .int .i64 0, .int .i64 0, .int .i64 0, .slice none 0 0, .int .i64 0, .int .i64 0, .int .i64 0, .int .i64 0, .slice none 0 0, .int .i64 0, .int .i64 0, .int .i64 0, .int .i64 0, .slice none 0 0, .int .i64 0, .bool false] 34
      replace BT := bon BT B
      replace p0 := cell_below B p0
      replace p1 := cell_below B p1
      replace Xbt := Xbt.on (Nat.succ_pos _) B
      clear B
      generalize U29.alloc (.cells #[.int .i64 0, .int .i64 0, .int .i64 0, .int .i64 0, .slice none 0 0, .int .i64 0, .int .i64 0, .int .i64 0, .int .i64 0, .slice none 0 0, .int .i64 0, .int .i64 0, .int .i64 0, .int .i64 0, .slice none 0 0, .int .i64 0, .bool false] 34) = U39 at *
      generalize U29.heap.size = bu at *
      go_simp
      refine tree_one rfl ?_
      go_wp2_with (go_at_call 26; (with_reducible refine (CT.out _).mono ?_); rintro _ U40 ⟨rfl, B⟩; replace BT := bon BT B; replace p0 := cell_below B p0; replace p1 := cell_below B p1; replace Xbt := Xbt.on (Nat.succ_pos _) B; replace Xbu := Xbu.on (Nat.succ_pos _) B; clear B)
      refine ⟨Ahead.of BT, ?_⟩
      refine tree_one rfl ?_
      go_wp2_with (go_at_call 26; (with_reducible refine (CS.out _).mono ?_); rintro _ U41 ⟨rfl, B⟩; replace BT := bon BT B; replace p0 := cell_below B p0; replace p1 := cell_below B p1; replace Xbt := Xbt.on (Nat.succ_pos _) B; replace Xbu := Xbu.on (Nat.succ_pos _) B; clear B)
      refine ⟨Ahead.of BT, ?_⟩
      have nbu : bt ≠ bu := nbtbu
      refine tree_one rfl ?_
      refine esetL (vs := [.int .i64 e0, .int .i64 e1, .int .i64 0, .int .i64 0, .slice none 0 0, .int .i64 e2, .int .i64 e3, .int .i64 0, .int .i64 0, .slice none 0 0, .int .i64 e4, .int .i64 e5, .int .i64 0, .int .i64 0, .slice none 0 0, .int .i64 0, .bool false]) rk_tr rfl rfl Xbt rfl rfl (by simp [Value.oneCell']) ?_
      intro U42 Y B9 hc9 hf9
      replace p0 := (hc9 ⟨w.heap.size + 1, 0, none⟩ (by have := block_lt_of_cell p0; have := PL.out; show w.heap.size + 1 ≠ bt; omega)).trans p0
      replace p1 := (hc9 ⟨w.heap.size + 1, 1, none⟩ (by have := PL.out; show w.heap.size + 1 ≠ bt; omega)).trans p1
      replace BT := BT.trans (B9.mono mbt)
      replace Xbu := Xbu.keep (by omega) hc9 hf9
      replace Xbt := Y
      clear B9 hc9 hf9
      refine ⟨Ahead.of BT, ?_⟩
      refine tree_one rfl ?_
      refine esetL (vs := [.int .i64 e2, .int .i64 e3, .int .i64 0, .int .i64 0, .slice none 0 0, .int .i64 e0, .int .i64 e1, .int .i64 0, .int .i64 0, .slice none 0 0, .int .i64 e6, .int .i64 e7, .int .i64 0, .int .i64 0, .slice none 0 0, .int .i64 0, .bool false]) rk_tr rfl rfl Xbu rfl rfl (by simp [Value.oneCell']) ?_
      intro U43 Y B9 hc9 hf9
      replace p0 := (hc9 ⟨w.heap.size + 1, 0, none⟩ (by have := block_lt_of_cell p0; have := PL.out; show w.heap.size + 1 ≠ bu; omega)).trans p0
      replace p1 := (hc9 ⟨w.heap.size + 1, 1, none⟩ (by have := PL.out; show w.heap.size + 1 ≠ bu; omega)).trans p1
      replace BT := BT.trans (B9.mono mbu)
      replace Xbt := Xbt.keep (by omega) hc9 hf9
      replace Xbu := Y
      clear B9 hc9 hf9
      refine ⟨Ahead.of BT, ?_⟩
      refine tree_nil ?_
      replace BB := bon BB BT
      clear BT
      have Etr_0 := range_cut Xbt.1 0 17
      have Etr_1 := range_cut Xbu.1 0 17
      simp only [List.drop_zero, List.take_succ_cons, List.take_zero, Nat.zero_add] at Etr_0 Etr_1
      clear Xbt Xbu CT CS
      go_wp2_with (first | ((with_reducible refine eload17L rk_tr Etr_0 ?_ ?_); focus rfl) | (refine wpList_ungd rfl ?_; (with_reducible refine eload17L rk_tr Etr_0 ?_ ?_); focus rfl) | ((with_reducible refine eload17L rk_tr Etr_1 ?_ ?_); focus rfl) | (refine wpList_ungd rfl ?_; (with_reducible refine eload17L rk_tr Etr_1 ?_ ?_); focus rfl) | (go_at_call 24; (with_reducible refine (CX.out _).mono ?_); rintro _ _ ⟨rfl, B⟩; (replace BB := bon BB B; replace Etr_0 := rangeAt_on Etr_0 B; replace Etr_1 := rangeAt_on Etr_1 B; replace p0 := cell_below B p0; replace p1 := cell_below B p1)) | (go_at_call 24; (with_reducible refine (CY.out _).mono ?_); rintro _ _ ⟨rfl, B⟩; (replace BB := bon BB B; replace Etr_0 := rangeAt_on Etr_0 B; replace Etr_1 := rangeAt_on Etr_1 B; replace p0 := cell_below B p0; replace p1 := cell_below B p1)) | (go_at_call 22; (with_reducible refine (CV.out _).mono ?_); rintro _ _ ⟨rfl, B⟩; (replace BB := bon BB B; replace Etr_0 := rangeAt_on Etr_0 B; replace Etr_1 := rangeAt_on Etr_1 B; replace p0 := cell_below B p0; replace p1 := cell_below B p1)) | (go_at_call 13; (with_reducible refine (example34_b _).mono ?_); rintro _ _ ⟨rfl, B⟩; (replace BB := bon BB B; replace Etr_0 := rangeAt_on Etr_0 B; replace Etr_1 := rangeAt_on Etr_1 B; replace p0 := cell_below B p0; replace p1 := cell_below B p1)))
      go_ret
      exact ⟨rfl, BB⟩
  · skip
    have mbu := BT.size
    refine wpList_allocL zero_tr ⟨Ahead.of (bon BT (box_below _ _ _)), ?_⟩
    have B := box_below U0 #[.int .i64 0, .int .i64 0, .int .i64 0, .int .i64 0, .slice none 0 0, .int .i64 0, .int .i64 0, .int .i64 0, .int .i64 0, .slice none 0 0, .int .i64 0, .int .i64 0, .int .i64 0, .int .i64 0, .slice none 0 0, .int .i64 0, .bool false] 34
    have Xbu := EBox.made U0 #[.int .i64 0, .int .i64 0, .int .i64 0, .int .i64 0, .slice none 0 0, .int .i64 0, .int .i64 0, .int .i64 0, .int .i64 0, .slice none 0 0, .int .i64 0, .int .i64 0, .int .i64 0, .int .i64 0, .slice none 0 0, .int .i64 0, .bool false] 34
    replace BT := bon BT B
    replace p0 := cell_below B p0
    replace p1 := cell_below B p1
    clear B
    generalize U0.alloc (.cells #[.int .i64 0, .int .i64 0, .int .i64 0, .int .i64 0, .slice none 0 0, .int .i64 0, .int .i64 0, .int .i64 0, .int .i64 0, .slice none 0 0, .int .i64 0, .int .i64 0, .int .i64 0, .int .i64 0, .slice none 0 0, .int .i64 0, .bool false] 34) = U44 at *
    generalize U0.heap.size = bu at *
    go_simp
    refine tree_two rfl rfl ?_ ?_
    · skip
      go_wp2_with (go_at_call 26; (with_reducible refine (CT.out _).mono ?_); rintro _ U45 ⟨rfl, B⟩; replace BT := bon BT B; replace p0 := cell_below B p0; replace p1 := cell_below B p1; replace Xbu := Xbu.on (Nat.succ_pos _) B; clear B)
      refine ⟨Ahead.of BT, ?_⟩
      refine tree_two rfl rfl ?_ ?_
      · skip
        go_wp2_with (go_at_call 26; (with_reducible refine (CS.out _).mono ?_); rintro _ U46 ⟨rfl, B⟩; replace BT := bon BT B; replace p0 := cell_below B p0; replace p1 := cell_below B p1; replace Xbu := Xbu.on (Nat.succ_pos _) B; clear B)
        refine ⟨Ahead.of BT, ?_⟩
        refine tree_one rfl ?_
        have mbt := BT.size
        have nbubt := Nat.ne_of_lt (Xbu.lt (Nat.succ_pos _))
        refine wpList_allocL zero_tr ⟨Ahead.of (bon BT (box_below _ _ _)), ?_⟩
        have B := box_below U46 #[.int .i64 0, .int .i64 0, .int .i64 0, .int .i64 0, .slice none 0 0, .int .i64 0, .int .i64 0, .int .i64 0, .int .i64 0, .slice none 0 0, .int .i64 0, .int .i64 0, .int .i64 0, .int .i64 0, .slice none 0 0, .int .i64 0, .bool false] 34
        have Xbt := EBox.made U46 #[.int .i64 0, .int .i64 0, .int .i64 0, .int .i64 0, .slice none 0 0, .int .i64 0, .int .i64 0, .int .i64 0, .int .i64 0, .slice none 0 0, .int .i64 0, .int .i64 0, .int .i64 0, .int .i64 0, .slice none 0 0, .int .i64 0, .bool false] 34
        replace BT := bon BT B
        replace p0 := cell_below B p0
        replace p1 := cell_below B p1
        replace Xbu := Xbu.on (Nat.succ_pos _) B
        clear B
        generalize U46.alloc (.cells #[.int .i64 0, .int .i64 0, .int .i64 0, .int .i64 0, .slice none 0 0, .int .i64 0, .int .i64 0, .int .i64 0, .int .i64 0, .slice none 0 0, .int .i64 0, .int .i64 0, .int .i64 0, .int .i64 0, .slice none 0 0, .int .i64 0, .bool false] 34) = U47 at *
        generalize U46.heap.size = bt at *
        go_simp
        have nbu : bt ≠ bu := Ne.symm nbubt
        refine tree_one rfl ?_
        refine esetL (vs := [.int .i64 e0, .int .i64 e1, .int .i64 0, .int .i64 0, .slice none 0 0, .int .i64 e2, .int .i64 e3, .int .i64 0, .int .i64 0, .slice none 0 0, .int .i64 e4, .int .i64 e5, .int .i64 0, .int .i64 0, .slice none 0 0, .int .i64 0, .bool false]) rk_tr rfl rfl Xbt rfl rfl (by simp [Value.oneCell']) ?_
        intro U48 Y B9 hc9 hf9
        replace p0 := (hc9 ⟨w.heap.size + 1, 0, none⟩ (by have := block_lt_of_cell p0; have := PL.out; show w.heap.size + 1 ≠ bt; omega)).trans p0
        replace p1 := (hc9 ⟨w.heap.size + 1, 1, none⟩ (by have := PL.out; show w.heap.size + 1 ≠ bt; omega)).trans p1
        replace BT := BT.trans (B9.mono mbt)
        replace Xbu := Xbu.keep (by omega) hc9 hf9
        replace Xbt := Y
        clear B9 hc9 hf9
        refine ⟨Ahead.of BT, ?_⟩
        refine tree_one rfl ?_
        refine esetL (vs := [.int .i64 e2, .int .i64 e3, .int .i64 0, .int .i64 0, .slice none 0 0, .int .i64 e0, .int .i64 e1, .int .i64 0, .int .i64 0, .slice none 0 0, .int .i64 e6, .int .i64 e7, .int .i64 0, .int .i64 0, .slice none 0 0, .int .i64 0, .bool false]) rk_tr rfl rfl Xbu rfl rfl (by simp [Value.oneCell']) ?_
        intro U49 Y B9 hc9 hf9
        replace p0 := (hc9 ⟨w.heap.size + 1, 0, none⟩ (by have := block_lt_of_cell p0; have := PL.out; show w.heap.size + 1 ≠ bu; omega)).trans p0
        replace p1 := (hc9 ⟨w.heap.size + 1, 1, none⟩ (by have := PL.out; show w.heap.size + 1 ≠ bu; omega)).trans p1
        replace BT := BT.trans (B9.mono mbu)
        replace Xbt := Xbt.keep (by omega) hc9 hf9
        replace Xbu := Y
        clear B9 hc9 hf9
        refine ⟨Ahead.of BT, ?_⟩
        refine tree_nil ?_
        replace BB := bon BB BT
        clear BT
        have Etr_0 := range_cut Xbt.1 0 17
        have Etr_1 := range_cut Xbu.1 0 17
        simp only [List.drop_zero, List.take_succ_cons, List.take_zero, Nat.zero_add] at Etr_0 Etr_1
        clear Xbt Xbu CT CS
        go_wp2_with (first | ((with_reducible refine eload17L rk_tr Etr_0 ?_ ?_); focus rfl) | (refine wpList_ungd rfl ?_; (with_reducible refine eload17L rk_tr Etr_0 ?_ ?_); focus rfl) | ((with_reducible refine eload17L rk_tr Etr_1 ?_ ?_); focus rfl) | (refine wpList_ungd rfl ?_; (with_reducible refine eload17L rk_tr Etr_1 ?_ ?_); focus rfl) | (go_at_call 24; (with_reducible refine (CX.out _).mono ?_); rintro _ _ ⟨rfl, B⟩; (replace BB := bon BB B; replace Etr_0 := rangeAt_on Etr_0 B; replace Etr_1 := rangeAt_on Etr_1 B; replace p0 := cell_below B p0; replace p1 := cell_below B p1)) | (go_at_call 24; (with_reducible refine (CY.out _).mono ?_); rintro _ _ ⟨rfl, B⟩; (replace BB := bon BB B; replace Etr_0 := rangeAt_on Etr_0 B; replace Etr_1 := rangeAt_on Etr_1 B; replace p0 := cell_below B p0; replace p1 := cell_below B p1)) | (go_at_call 22; (with_reducible refine (CV.out _).mono ?_); rintro _ _ ⟨rfl, B⟩; (replace BB := bon BB B; replace Etr_0 := rangeAt_on Etr_0 B; replace Etr_1 := rangeAt_on Etr_1 B; replace p0 := cell_below B p0; replace p1 := cell_below B p1)) | (go_at_call 13; (with_reducible refine (example34_b _).mono ?_); rintro _ _ ⟨rfl, B⟩; (replace BB := bon BB B; replace Etr_0 := rangeAt_on Etr_0 B; replace Etr_1 := rangeAt_on Etr_1 B; replace p0 := cell_below B p0; replace p1 := cell_below B p1)))
        go_ret
        exact ⟨rfl, BB⟩
      · skip
        have mbt := BT.size
        have nbubt := Nat.ne_of_lt (Xbu.lt (Nat.succ_pos _))
        refine wpList_allocL zero_tr ⟨Ahead.of (bon BT (box_below _ _ _)), ?_⟩
        have B := box_below U45 #[.int .i64 0, .int .i64 0, .int .i64 0, .int .i64 0, .slice none 0 0, .int .i64 0, .int .i64 0, .int .i64 0, .int .i64 0, .slice none 0 0, .int .i64 0, .int .i64 0, .int .i64 0, .int .i64 0, .slice none 0 0, .int .i64 0, .bool false] 34
        have Xbt := EBox.made U45 #[.int .i64 0, .int .i64 0, .int .i64 0, .int .i64 0, .slice none 0 0, .int .i64 0, .int .i64 0, .int .i64 0, .int .i64 0, .slice none 0 0, .int .i64 0, .int .i64 0, .int .i64 0, .int .i64 0, .slice none 0 0, .int .i64 0, .bool false] 34
        replace BT := bon BT B
        replace p0 := cell_below B p0
        replace p1 := cell_below B p1
        replace Xbu := Xbu.on (Nat.succ_pos _) B
        clear B
        generalize U45.alloc (.cells #[.int .i64 0, .int .i64 0, .int .i64 0, .int .i64 0, .slice none 0 0, .int .i64 0, .int .i64 0, .int .i64 0, .int .i64 0, .slice none 0 0, .int .i64 0, .int .i64 0, .int .i64 0, .int .i64 0, .slice none 0 0, .int .i64 0, .bool false] 34) = U50 at *
        generalize U45.heap.size = bt at *
        go_simp
        refine tree_one rfl ?_
        go_wp2_with (go_at_call 26; (with_reducible refine (CS.out _).mono ?_); rintro _ U51 ⟨rfl, B⟩; replace BT := bon BT B; replace p0 := cell_below B p0; replace p1 := cell_below B p1; replace Xbu := Xbu.on (Nat.succ_pos _) B; replace Xbt := Xbt.on (Nat.succ_pos _) B; clear B)
        refine ⟨Ahead.of BT, ?_⟩
        have nbu : bt ≠ bu := Ne.symm nbubt
        refine tree_one rfl ?_
        refine esetL (vs := [.int .i64 e0, .int .i64 e1, .int .i64 0, .int .i64 0, .slice none 0 0, .int .i64 e2, .int .i64 e3, .int .i64 0, .int .i64 0, .slice none 0 0, .int .i64 e4, .int .i64 e5, .int .i64 0, .int .i64 0, .slice none 0 0, .int .i64 0, .bool false]) rk_tr rfl rfl Xbt rfl rfl (by simp [Value.oneCell']) ?_
        intro U52 Y B9 hc9 hf9
        replace p0 := (hc9 ⟨w.heap.size + 1, 0, none⟩ (by have := block_lt_of_cell p0; have := PL.out; show w.heap.size + 1 ≠ bt; omega)).trans p0
        replace p1 := (hc9 ⟨w.heap.size + 1, 1, none⟩ (by have := PL.out; show w.heap.size + 1 ≠ bt; omega)).trans p1
        replace BT := BT.trans (B9.mono mbt)
        replace Xbu := Xbu.keep (by omega) hc9 hf9
        replace Xbt := Y
        clear B9 hc9 hf9
        refine ⟨Ahead.of BT, ?_⟩
        refine tree_one rfl ?_
        refine esetL (vs := [.int .i64 e2, .int .i64 e3, .int .i64 0, .int .i64 0, .slice none 0 0, .int .i64 e0, .int .i64 e1, .int .i64 0, .int .i64 0, .slice none 0 0, .int .i64 e6, .int .i64 e7, .int .i64 0, .int .i64 0, .slice none 0 0, .int .i64 0, .bool false]) rk_tr rfl rfl Xbu rfl rfl (by simp [Value.oneCell']) ?_
        intro U53 Y B9 hc9 hf9
        replace p0 := (hc9 ⟨w.heap.size + 1, 0, none⟩ (by have := block_lt_of_cell p0; have := PL.out; show w.heap.size + 1 ≠ bu; omega)).trans p0
        replace p1 := (hc9 ⟨w.heap.size + 1, 1, none⟩ (by have := PL.out; show w.heap.size + 1 ≠ bu; omega)).trans p1
        replace BT := BT.trans (B9.mono mbu)
        replace Xbt := Xbt.keep (by omega) hc9 hf9
        replace Xbu := Y
        clear B9 hc9 hf9
        refine ⟨Ahead.of BT, ?_⟩
        refine tree_nil ?_
        replace BB := bon BB BT
        clear BT
        have Etr_0 := range_cut Xbt.1 0 17
        have Etr_1 := range_cut Xbu.1 0 17
        simp only [List.drop_zero, List.take_succ_cons, List.take_zero, Nat.zero_add] at Etr_0 Etr_1
        clear Xbt Xbu CT CS
        go_wp2_with (first | ((with_reducible refine eload17L rk_tr Etr_0 ?_ ?_); focus rfl) | (refine wpList_ungd rfl ?_; (with_reducible refine eload17L rk_tr Etr_0 ?_ ?_); focus rfl) | ((with_reducible refine eload17L rk_tr Etr_1 ?_ ?_); focus rfl) | (refine wpList_ungd rfl ?_; (with_reducible refine eload17L rk_tr Etr_1 ?_ ?_); focus rfl) | (go_at_call 24; (with_reducible refine (CX.out _).mono ?_); rintro _ _ ⟨rfl, B⟩; (replace BB := bon BB B; replace Etr_0 := rangeAt_on Etr_0 B; replace Etr_1 := rangeAt_on Etr_1 B; replace p0 := cell_below B p0; replace p1 := cell_below B p1)) | (go_at_call 24; (with_reducible refine (CY.out _).mono ?_); rintro _ _ ⟨rfl, B⟩; (replace BB := bon BB B; replace Etr_0 := rangeAt_on Etr_0 B; replace Etr_1 := rangeAt_on Etr_1 B; replace p0 := cell_below B p0; replace p1 := cell_below B p1)) | (go_at_call 22; (with_reducible refine (CV.out _).mono ?_); rintro _ _ ⟨rfl, B⟩; (replace BB := bon BB B; replace Etr_0 := rangeAt_on Etr_0 B; replace Etr_1 := rangeAt_on Etr_1 B; replace p0 := cell_below B p0; replace p1 := cell_below B p1)) | (go_at_call 13; (with_reducible refine (example34_b _).mono ?_); rintro _ _ ⟨rfl, B⟩; (replace BB := bon BB B; replace Etr_0 := rangeAt_on Etr_0 B; replace Etr_1 := rangeAt_on Etr_1 B; replace p0 := cell_below B p0; replace p1 := cell_below B p1)))
        go_ret
        exact ⟨rfl, BB⟩
    · skip
      have mbt := BT.size
      have nbubt := Nat.ne_of_lt (Xbu.lt (Nat.succ_pos _))
      refine wpList_allocL zero_tr ⟨Ahead.of (bon BT (box_below _ _ _)), ?_⟩
      have B := box_below U44 #[.int .i64 0, .int .i64 0, .int .i64 0, .int .i64 0, .slice none 0 0, .int .i64 0, .int .i64 0, .int .i64 0, .int .i64 0, .slice none 0 0, .int .i64 0, .int .i64 0, .int .i64 0, .int .i64 0, .slice none 0 0, .int .i64 0, .bool false] 34
      have Xbt := EBox.made U44 #[.int .i64 0, .int .i64 0, .int .i64 0, .int .i64 0, .slice none 0 0, .int .i64 0, .int .i64 0, .int .i64 0, .int .i64 0, .slice none 0 0, .int .i64 0, .int .i64 0, .int .i64 0, .int .i64 0, .slice none 0 0, .int .i64 0, .bool false] 34
      replace BT := bon BT B
      replace p0 := cell_below B p0
      replace p1 := cell_below B p1
      replace Xbu := Xbu.on (Nat.succ_pos _) B
      clear B
      generalize U44.alloc (.cells #[.int .i64 0, .int .i64 0, .int .i64 0, .int .i64 0, .slice none 0 0, .int .i64 0, .int .i64 0, .int .i64 0, .int .i64 0, .slice none 0 0, .int .i64 0, .int .i64 0, .int .i64 0, .int .i64 0, .slice none 0 0, .int .i64 0, .bool false] 34) = U54 at *
      generalize U44.heap.size = bt at *
      go_simp
      refine tree_one rfl ?_
      go_wp2_with (go_at_call 26; (with_reducible refine (CT.out _).mono ?_); rintro _ U55 ⟨rfl, B⟩; replace BT := bon BT B; replace p0 := cell_below B p0; replace p1 := cell_below B p1; replace Xbu := Xbu.on (Nat.succ_pos _) B; replace Xbt := Xbt.on (Nat.succ_pos _) B; clear B)
      refine ⟨Ahead.of BT, ?_⟩
      refine tree_one rfl ?_
      go_wp2_with (go_at_call 26; (with_reducible refine (CS.out _).mono ?_); rintro _ U56 ⟨rfl, B⟩; replace BT := bon BT B; replace p0 := cell_below B p0; replace p1 := cell_below B p1; replace Xbu := Xbu.on (Nat.succ_pos _) B; replace Xbt := Xbt.on (Nat.succ_pos _) B; clear B)
      refine ⟨Ahead.of BT, ?_⟩
      have nbu : bt ≠ bu := Ne.symm nbubt
      refine tree_one rfl ?_
      refine esetL (vs := [.int .i64 e0, .int .i64 e1, .int .i64 0, .int .i64 0, .slice none 0 0, .int .i64 e2, .int .i64 e3, .int .i64 0, .int .i64 0, .slice none 0 0, .int .i64 e4, .int .i64 e5, .int .i64 0, .int .i64 0, .slice none 0 0, .int .i64 0, .bool false]) rk_tr rfl rfl Xbt rfl rfl (by simp [Value.oneCell']) ?_
      intro U57 Y B9 hc9 hf9
      replace p0 := (hc9 ⟨w.heap.size + 1, 0, none⟩ (by have := block_lt_of_cell p0; have := PL.out; show w.heap.size + 1 ≠ bt; omega)).trans p0
      replace p1 := (hc9 ⟨w.heap.size + 1, 1, none⟩ (by have := PL.out; show w.heap.size + 1 ≠ bt; omega)).trans p1
      replace BT := BT.trans (B9.mono mbt)
      replace Xbu := Xbu.keep (by omega) hc9 hf9
      replace Xbt := Y
      clear B9 hc9 hf9
      refine ⟨Ahead.of BT, ?_⟩
      refine tree_one rfl ?_
      refine esetL (vs := [.int .i64 e2, .int .i64 e3, .int .i64 0, .int .i64 0, .slice none 0 0, .int .i64 e0, .int .i64 e1, .int .i64 0, .int .i64 0, .slice none 0 0, .int .i64 e6, .int .i64 e7, .int .i64 0, .int .i64 0, .slice none 0 0, .int .i64 0, .bool false]) rk_tr rfl rfl Xbu rfl rfl (by simp [Value.oneCell']) ?_
      intro U58 Y B9 hc9 hf9
      replace p0 := (hc9 ⟨w.heap.size + 1, 0, none⟩ (by have := block_lt_of_cell p0; have := PL.out; show w.heap.size + 1 ≠ bu; omega)).trans p0
      replace p1 := (hc9 ⟨w.heap.size + 1, 1, none⟩ (by have := PL.out; show w.heap.size + 1 ≠ bu; omega)).trans p1
      replace BT := BT.trans (B9.mono mbu)
      replace Xbt := Xbt.keep (by omega) hc9 hf9
      replace Xbu := Y
      clear B9 hc9 hf9
      refine ⟨Ahead.of BT, ?_⟩
      refine tree_nil ?_
      replace BB := bon BB BT
      clear BT
      have Etr_0 := range_cut Xbt.1 0 17
      have Etr_1 := range_cut Xbu.1 0 17
      simp only [List.drop_zero, List.take_succ_cons, List.take_zero, Nat.zero_add] at Etr_0 Etr_1
      clear Xbt Xbu CT CS
      go_wp2_with (first | ((with_reducible refine eload17L rk_tr Etr_0 ?_ ?_); focus rfl) | (refine wpList_ungd rfl ?_; (with_reducible refine eload17L rk_tr Etr_0 ?_ ?_); focus rfl) | ((with_reducible refine eload17L rk_tr Etr_1 ?_ ?_); focus rfl) | (refine wpList_ungd rfl ?_; (with_reducible refine eload17L rk_tr Etr_1 ?_ ?_); focus rfl) | (go_at_call 24; (with_reducible refine (CX.out _).mono ?_); rintro _ _ ⟨rfl, B⟩; (replace BB := bon BB B; replace Etr_0 := rangeAt_on Etr_0 B; replace Etr_1 := rangeAt_on Etr_1 B; replace p0 := cell_below B p0; replace p1 := cell_below B p1)) | (go_at_call 24; (with_reducible refine (CY.out _).mono ?_); rintro _ _ ⟨rfl, B⟩; (replace BB := bon BB B; replace Etr_0 := rangeAt_on Etr_0 B; replace Etr_1 := rangeAt_on Etr_1 B; replace p0 := cell_below B p0; replace p1 := cell_below B p1)) | (go_at_call 22; (with_reducible refine (CV.out _).mono ?_); rintro _ _ ⟨rfl, B⟩; (replace BB := bon BB B; replace Etr_0 := rangeAt_on Etr_0 B; replace Etr_1 := rangeAt_on Etr_1 B; replace p0 := cell_below B p0; replace p1 := cell_below B p1)) | (go_at_call 13; (with_reducible refine (example34_b _).mono ?_); rintro _ _ ⟨rfl, B⟩; (replace BB := bon BB B; replace Etr_0 := rangeAt_on Etr_0 B; replace Etr_1 := rangeAt_on Etr_1 B; replace p0 := cell_below B p0; replace p1 := cell_below B p1)))
      go_ret
      exact ⟨rfl, BB⟩

end Go.Proofs.Ythooembneegkhaa
