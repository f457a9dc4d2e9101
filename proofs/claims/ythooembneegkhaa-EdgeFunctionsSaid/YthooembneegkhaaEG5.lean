/- The walks of EdgeFunctions, EdgeShared. -/
import Derived.Test.YthooembneegkhaaEG4
namespace Go.Proofs.Ythooembneegkhaa
set_option linter.unusedSimpArgs false
open Go.RowKit Go.Sort Go.ChangeShapes Go.WideShapes
set_option linter.unusedVariables false

set_option maxRecDepth 100000 in
set_option maxHeartbeats 2000000 in
theorem functions_walk (ax ay bx by' px py : Int) (w : World) : Calls Try.prog 4 #[.agg #[.int .i64 ax, .int .i64 ay], .agg #[.int .i64 bx, .int .i64 by'], .agg #[.int .i64 px, .int .i64 py]] w fun e w' => e = .returned (.bool true) ∧ Below w.heap.size w w' := by
  have BB := box_below w #[.int .i64 ax, .int .i64 ay] 22
  have X0 := EBox.made w #[.int .i64 ax, .int .i64 ay] 22
  have hsz1 : (w.alloc (.cells #[.int .i64 ax, .int .i64 ay] 22)).heap.size = w.heap.size + 1 := by simp
  have X1 := EBox.made (w.alloc (.cells #[.int .i64 ax, .int .i64 ay] 22)) #[.int .i64 bx, .int .i64 by'] 22
  rw [hsz1] at X1
  replace X0 := X0.on (Nat.succ_pos _) (box_below (w.alloc (.cells #[.int .i64 ax, .int .i64 ay] 22)) #[.int .i64 bx, .int .i64 by'] 22)
  replace BB := bon BB (box_below (w.alloc (.cells #[.int .i64 ax, .int .i64 ay] 22)) #[.int .i64 bx, .int .i64 by'] 22)
  clear hsz1
  have hsz2 : ((w.alloc (.cells #[.int .i64 ax, .int .i64 ay] 22)).alloc (.cells #[.int .i64 bx, .int .i64 by'] 22)).heap.size = w.heap.size + 2 := by simp
  have X2 := EBox.made ((w.alloc (.cells #[.int .i64 ax, .int .i64 ay] 22)).alloc (.cells #[.int .i64 bx, .int .i64 by'] 22)) #[.int .i64 px, .int .i64 py] 22
  rw [hsz2] at X2
  replace X0 := X0.on (Nat.succ_pos _) (box_below ((w.alloc (.cells #[.int .i64 ax, .int .i64 ay] 22)).alloc (.cells #[.int .i64 bx, .int .i64 by'] 22)) #[.int .i64 px, .int .i64 py] 22)
  replace X1 := X1.on (Nat.succ_pos _) (box_below ((w.alloc (.cells #[.int .i64 ax, .int .i64 ay] 22)).alloc (.cells #[.int .i64 bx, .int .i64 by'] 22)) #[.int .i64 px, .int .i64 py] 22)
  replace BB := bon BB (box_below ((w.alloc (.cells #[.int .i64 ax, .int .i64 ay] 22)).alloc (.cells #[.int .i64 bx, .int .i64 by'] 22)) #[.int .i64 px, .int .i64 py] 22)
  clear hsz2
  have c0 := X0.cell (i := 0) rfl
  have c1 := X0.cell (i := 1) rfl
  have d0 := X1.cell (i := 0) rfl
  have d1 := X1.cell (i := 1) rfl
  have e0 := X2.cell (i := 0) rfl
  have e1 := X2.cell (i := 1) rfl
  clear X0 X1 X2
  go_enter Try.func4, Try.ntmps4
  go_wp2_with fail
  have k_c0 := cell_regrown c0
  have k_c1 := cell_regrown c1
  have k_d0 := cell_regrown d0
  have k_d1 := cell_regrown d1
  have k_e0 := cell_regrown e0
  have k_e1 := cell_regrown e1
  refine wp_region_quiet_below (by kernel_rfl) (by kernel_rfl) ?_
  repeat (first | go_big_quiet_step ((first | (go_at_call 10; exact Calls.regrown_of (efn_b ax ay bx by' px py _)) | (go_at_call 15; exact Calls.regrown_of (refn_b ax ay bx by' px py _)) | (go_at_call 14; exact Calls.regrown_of (tl_b ax ay bx by' _)) | (go_at_call 16; exact Calls.regrown_of (rtl_b ax ay bx by' _)) | (go_at_call 11; exact Calls.regrown_of (acc_b ax ay bx by' px py _)) | (go_at_call 17; exact Calls.regrown_of (racc_b ax ay bx by' px py _)) | (go_at_call 13; exact Calls.regrown_of (example34_b _)))) | quiet_step ((first | (go_at_call 10; exact Calls.regrown_of (efn_b ax ay bx by' px py _)) | (go_at_call 15; exact Calls.regrown_of (refn_b ax ay bx by' px py _)) | (go_at_call 14; exact Calls.regrown_of (tl_b ax ay bx by' _)) | (go_at_call 16; exact Calls.regrown_of (rtl_b ax ay bx by' _)) | (go_at_call 11; exact Calls.regrown_of (acc_b ax ay bx by' px py _)) | (go_at_call 17; exact Calls.regrown_of (racc_b ax ay bx by' px py _)) | (go_at_call 13; exact Calls.regrown_of (example34_b _)))))
  refine wpQuiet_nil ?_
  intro W hw'
  have B := below_regrown' hw'
  clear hw' k_c0 k_c1 k_d0 k_d1 k_e0 k_e1
  replace BB := bon BB B
  replace c0 := cell_below B c0
  replace c1 := cell_below B c1
  replace d0 := cell_below B d0
  replace d1 := cell_below B d1
  replace e0 := cell_below B e0
  replace e1 := cell_below B e1
  go_wp2
  go_ret
  exact ⟨rfl, BB⟩

set_option maxRecDepth 100000 in
set_option maxHeartbeats 4000000 in
theorem shared_case (ax ay bx by' px py f : Int) (x y t u : Bool) (hf : efn ax ay bx by' px py = f) (hg : efn bx by' ax ay px py = -f) (hx : acc ax ay bx by' px py = x) (hy : acc bx by' ax ay px py = y) (ht : tlv ax ay bx by' = t) (hu : tlv bx by' ax ay = u)
    (h : (onv ax = onv bx ∧ onv ay = onv by' ∧ f = 0 ∧ x = false ∧ y = false) ∨ (¬ (onv ax = onv bx ∧ onv ay = onv by') ∧ y = (!x) ∧ u = (!t) ∧ (f ≤ 0 ∨ x = true) ∧ (0 ≤ f ∨ y = true))) (hb : -536870912 ≤ f ∧ f ≤ 536870912) (w : World) :
    Calls Try.prog 3 #[.agg #[.int .i64 ax, .int .i64 ay], .agg #[.int .i64 bx, .int .i64 by'], .agg #[.int .i64 px, .int .i64 py]] w fun e w' => e = .returned (.bool true) ∧ Below w.heap.size w w' := by
  have BB := box_below w #[.int .i64 ax, .int .i64 ay] 22
  have X0 := EBox.made w #[.int .i64 ax, .int .i64 ay] 22
  have hsz1 : (w.alloc (.cells #[.int .i64 ax, .int .i64 ay] 22)).heap.size = w.heap.size + 1 := by simp
  have X1 := EBox.made (w.alloc (.cells #[.int .i64 ax, .int .i64 ay] 22)) #[.int .i64 bx, .int .i64 by'] 22
  rw [hsz1] at X1
  replace X0 := X0.on (Nat.succ_pos _) (box_below (w.alloc (.cells #[.int .i64 ax, .int .i64 ay] 22)) #[.int .i64 bx, .int .i64 by'] 22)
  replace BB := bon BB (box_below (w.alloc (.cells #[.int .i64 ax, .int .i64 ay] 22)) #[.int .i64 bx, .int .i64 by'] 22)
  clear hsz1
  have hsz2 : ((w.alloc (.cells #[.int .i64 ax, .int .i64 ay] 22)).alloc (.cells #[.int .i64 bx, .int .i64 by'] 22)).heap.size = w.heap.size + 2 := by simp
  have X2 := EBox.made ((w.alloc (.cells #[.int .i64 ax, .int .i64 ay] 22)).alloc (.cells #[.int .i64 bx, .int .i64 by'] 22)) #[.int .i64 px, .int .i64 py] 22
  rw [hsz2] at X2
  replace X0 := X0.on (Nat.succ_pos _) (box_below ((w.alloc (.cells #[.int .i64 ax, .int .i64 ay] 22)).alloc (.cells #[.int .i64 bx, .int .i64 by'] 22)) #[.int .i64 px, .int .i64 py] 22)
  replace X1 := X1.on (Nat.succ_pos _) (box_below ((w.alloc (.cells #[.int .i64 ax, .int .i64 ay] 22)).alloc (.cells #[.int .i64 bx, .int .i64 by'] 22)) #[.int .i64 px, .int .i64 py] 22)
  replace BB := bon BB (box_below ((w.alloc (.cells #[.int .i64 ax, .int .i64 ay] 22)).alloc (.cells #[.int .i64 bx, .int .i64 by'] 22)) #[.int .i64 px, .int .i64 py] 22)
  clear hsz2
  have c0 := X0.cell (i := 0) rfl
  have c1 := X0.cell (i := 1) rfl
  have d0 := X1.cell (i := 0) rfl
  have d1 := X1.cell (i := 1) rfl
  have e0 := X2.cell (i := 0) rfl
  have e1 := X2.cell (i := 1) rfl
  clear X0 X1 X2
  have CF := Lib.hid (fun W => efn_at _ _ _ _ _ _ _ hf W)
  have CG := Lib.hid (fun W => efn_at _ _ _ _ _ _ _ hg W)
  have CX := Lib.hid (fun W => acc_at _ _ _ _ _ _ _ hx W)
  have CY := Lib.hid (fun W => acc_at _ _ _ _ _ _ _ hy W)
  have CT := Lib.hid (fun W => tl_at _ _ _ _ _ ht W)
  have CU := Lib.hid (fun W => tl_at _ _ _ _ _ hu W)
  have la := fun W => limited_b ax W
  have lb := fun W => limited_b ay W
  have lc := fun W => limited_b bx W
  have ld := fun W => limited_b by' W
  clear hf hg hx hy ht hu
  obtain ⟨A, hA⟩ : ∃ v, onv ax = v := ⟨_, rfl⟩
  obtain ⟨B', hB⟩ : ∃ v, onv ay = v := ⟨_, rfl⟩
  obtain ⟨C, hC⟩ : ∃ v, onv bx = v := ⟨_, rfl⟩
  obtain ⟨D, hD⟩ : ∃ v, onv by' = v := ⟨_, rfl⟩
  rw [hA] at la h
  rw [hB] at lb h
  rw [hC] at lc h
  rw [hD] at ld h
  have LA := Lib.hid la
  have LB := Lib.hid lb
  have LC := Lib.hid lc
  have LD := Lib.hid ld
  obtain ⟨hb1, hb2⟩ := hb
  clear la lb lc ld hA hB hC hD
  rcases h with ⟨rfl, rfl, rfl, rfl, rfl⟩ | ⟨hs, rfl, rfl, h1, h2⟩
  · go_enter Try.func3, Try.ntmps3
    go_wp2_with fail
    have k_c0 := cell_regrown c0
    have k_c1 := cell_regrown c1
    have k_d0 := cell_regrown d0
    have k_d1 := cell_regrown d1
    have k_e0 := cell_regrown e0
    have k_e1 := cell_regrown e1
    refine wp_region_quiet_below (by kernel_rfl) (by kernel_rfl) ?_
    repeat (first | go_big_quiet_step ((first | (go_at_call 10; with_reducible exact Calls.regrown_of (CF.out _)) | (go_at_call 10; with_reducible exact Calls.regrown_of (CG.out _)))) | quiet_step ((first | (go_at_call 10; with_reducible exact Calls.regrown_of (CF.out _)) | (go_at_call 10; with_reducible exact Calls.regrown_of (CG.out _)))))
    refine wpQuiet_nil ?_
    intro W hw'
    have B := below_regrown' hw'
    clear hw' k_c0 k_c1 k_d0 k_d1 k_e0 k_e1
    replace BB := bon BB B
    replace c0 := cell_below B c0
    replace c1 := cell_below B c1
    replace d0 := cell_below B d0
    replace d1 := cell_below B d1
    replace e0 := cell_below B e0
    replace e1 := cell_below B e1
    go_wp2_with fail
    have k_c0 := cell_regrown c0
    have k_c1 := cell_regrown c1
    have k_d0 := cell_regrown d0
    have k_d1 := cell_regrown d1
    have k_e0 := cell_regrown e0
    have k_e1 := cell_regrown e1
    refine wp_region_quiet_below (by kernel_rfl) (by kernel_rfl) ?_
    repeat (first | go_big_quiet_step ((first | (go_at_call 11; with_reducible exact Calls.regrown_of (CX.out _)) | (go_at_call 11; with_reducible exact Calls.regrown_of (CY.out _)))) | quiet_step ((first | (go_at_call 11; with_reducible exact Calls.regrown_of (CX.out _)) | (go_at_call 11; with_reducible exact Calls.regrown_of (CY.out _)))))
    refine wpQuiet_nil ?_
    intro W hw'
    have B := below_regrown' hw'
    clear hw' k_c0 k_c1 k_d0 k_d1 k_e0 k_e1
    replace BB := bon BB B
    replace c0 := cell_below B c0
    replace c1 := cell_below B c1
    replace d0 := cell_below B d0
    replace d1 := cell_below B d1
    replace e0 := cell_below B e0
    replace e1 := cell_below B e1
    go_wp2_with fail
    have k_c0 := cell_regrown c0
    have k_c1 := cell_regrown c1
    have k_d0 := cell_regrown d0
    have k_d1 := cell_regrown d1
    have k_e0 := cell_regrown e0
    have k_e1 := cell_regrown e1
    refine wp_region_quiet_below (by kernel_rfl) (by kernel_rfl) ?_
    repeat (first | go_big_quiet_step ((first | (go_at_call 12; with_reducible exact Calls.regrown_of (LA.out _)) | (go_at_call 12; with_reducible exact Calls.regrown_of (LB.out _)) | (go_at_call 12; with_reducible exact Calls.regrown_of (LC.out _)) | (go_at_call 12; with_reducible exact Calls.regrown_of (LD.out _)))) | quiet_step ((first | (go_at_call 12; with_reducible exact Calls.regrown_of (LA.out _)) | (go_at_call 12; with_reducible exact Calls.regrown_of (LB.out _)) | (go_at_call 12; with_reducible exact Calls.regrown_of (LC.out _)) | (go_at_call 12; with_reducible exact Calls.regrown_of (LD.out _)))))
    refine wpQuiet_nil ?_
    intro W hw'
    have B := below_regrown' hw'
    clear hw' k_c0 k_c1 k_d0 k_d1 k_e0 k_e1
    replace BB := bon BB B
    replace c0 := cell_below B c0
    replace c1 := cell_below B c1
    replace d0 := cell_below B d0
    replace d1 := cell_below B d1
    replace e0 := cell_below B e0
    replace e1 := cell_below B e1
    go_wp2_with (first | (go_at_call 13; refine (example34_b _).mono ?_; rintro _ _ ⟨rfl, B⟩; replace BB := bon BB B; replace c0 := cell_below B c0; replace c1 := cell_below B c1; replace d0 := cell_below B d0; replace d1 := cell_below B d1; replace e0 := cell_below B e0; replace e1 := cell_below B e1))
    go_ret
    exact ⟨rfl, BB⟩
  · rcases (show ¬ A = C ∨ (A = C ∧ ¬ B' = D) by omega) with h3 | ⟨rfl, h3⟩
    all_goals
      clear hs
      rcases (show f < 0 ∨ f = 0 ∨ 0 < f by omega) with h4 | rfl | h4
      · obtain rfl : x = false := by rcases h2 with h2 | h2; exact absurd h2 (by omega); simpa using h2
        have qd0 : decide (0 ≤ f) = false := decide_eq_false (by omega)
        have qd1 : decide (f ≤ 0) = true := decide_eq_true (by omega)
        cases t
        all_goals
          simp only [Bool.not_false, Bool.not_true] at CY CU
          go_enter Try.func3, Try.ntmps3
          go_wp2_with fail
          have k_c0 := cell_regrown c0
          have k_c1 := cell_regrown c1
          have k_d0 := cell_regrown d0
          have k_d1 := cell_regrown d1
          have k_e0 := cell_regrown e0
          have k_e1 := cell_regrown e1
          refine wp_region_quiet_below (by kernel_rfl) (by kernel_rfl) ?_
          repeat (first | go_big_quiet_step ((first | (go_at_call 10; with_reducible exact Calls.regrown_of (CF.out _)) | (go_at_call 10; with_reducible exact Calls.regrown_of (CG.out _)))) | quiet_step ((first | (go_at_call 10; with_reducible exact Calls.regrown_of (CF.out _)) | (go_at_call 10; with_reducible exact Calls.regrown_of (CG.out _)))))
          refine wpQuiet_nil ?_
          intro W hw'
          have B := below_regrown' hw'
          clear hw' k_c0 k_c1 k_d0 k_d1 k_e0 k_e1
          replace BB := bon BB B
          replace c0 := cell_below B c0
          replace c1 := cell_below B c1
          replace d0 := cell_below B d0
          replace d1 := cell_below B d1
          replace e0 := cell_below B e0
          replace e1 := cell_below B e1
          go_wp2_with fail
          have k_c0 := cell_regrown c0
          have k_c1 := cell_regrown c1
          have k_d0 := cell_regrown d0
          have k_d1 := cell_regrown d1
          have k_e0 := cell_regrown e0
          have k_e1 := cell_regrown e1
          refine wp_region_quiet_below (by kernel_rfl) (by kernel_rfl) ?_
          repeat (first | go_big_quiet_step ((first | (go_at_call 11; with_reducible exact Calls.regrown_of (CX.out _)) | (go_at_call 11; with_reducible exact Calls.regrown_of (CY.out _)))) | quiet_step ((first | (go_at_call 11; with_reducible exact Calls.regrown_of (CX.out _)) | (go_at_call 11; with_reducible exact Calls.regrown_of (CY.out _)))))
          refine wpQuiet_nil ?_
          intro W hw'
          have B := below_regrown' hw'
          clear hw' k_c0 k_c1 k_d0 k_d1 k_e0 k_e1
          replace BB := bon BB B
          replace c0 := cell_below B c0
          replace c1 := cell_below B c1
          replace d0 := cell_below B d0
          replace d1 := cell_below B d1
          replace e0 := cell_below B e0
          replace e1 := cell_below B e1
          go_wp2_with fail
          have k_c0 := cell_regrown c0
          have k_c1 := cell_regrown c1
          have k_d0 := cell_regrown d0
          have k_d1 := cell_regrown d1
          have k_e0 := cell_regrown e0
          have k_e1 := cell_regrown e1
          refine wp_region_quiet_below (by kernel_rfl) (by kernel_rfl) ?_
          repeat (first | go_big_quiet_step ((first | (go_at_call 12; with_reducible exact Calls.regrown_of (LA.out _)) | (go_at_call 12; with_reducible exact Calls.regrown_of (LB.out _)) | (go_at_call 12; with_reducible exact Calls.regrown_of (LC.out _)) | (go_at_call 12; with_reducible exact Calls.regrown_of (LD.out _)))) | quiet_step ((first | (go_at_call 12; with_reducible exact Calls.regrown_of (LA.out _)) | (go_at_call 12; with_reducible exact Calls.regrown_of (LB.out _)) | (go_at_call 12; with_reducible exact Calls.regrown_of (LC.out _)) | (go_at_call 12; with_reducible exact Calls.regrown_of (LD.out _)))))
          refine wpQuiet_nil ?_
          intro W hw'
          have B := below_regrown' hw'
          clear hw' k_c0 k_c1 k_d0 k_d1 k_e0 k_e1
          replace BB := bon BB B
          replace c0 := cell_below B c0
          replace c1 := cell_below B c1
          replace d0 := cell_below B d0
          replace d1 := cell_below B d1
          replace e0 := cell_below B e0
          replace e1 := cell_below B e1
          go_wp2_with fail
          have k_c0 := cell_regrown c0
          have k_c1 := cell_regrown c1
          have k_d0 := cell_regrown d0
          have k_d1 := cell_regrown d1
          have k_e0 := cell_regrown e0
          have k_e1 := cell_regrown e1
          refine wp_region_quiet_below (by kernel_rfl) (by kernel_rfl) ?_
          repeat (first | go_big_quiet_step ((first | (go_at_call 14; with_reducible exact Calls.regrown_of (CT.out _)) | (go_at_call 14; with_reducible exact Calls.regrown_of (CU.out _)) | (go_at_call 13; exact Calls.regrown_of (example34_b _)))) | quiet_step ((first | (go_at_call 14; with_reducible exact Calls.regrown_of (CT.out _)) | (go_at_call 14; with_reducible exact Calls.regrown_of (CU.out _)) | (go_at_call 13; exact Calls.regrown_of (example34_b _)))))
          refine wpQuiet_nil ?_
          intro W hw'
          have B := below_regrown' hw'
          clear hw' k_c0 k_c1 k_d0 k_d1 k_e0 k_e1
          replace BB := bon BB B
          replace c0 := cell_below B c0
          replace c1 := cell_below B c1
          replace d0 := cell_below B d0
          replace d1 := cell_below B d1
          replace e0 := cell_below B e0
          replace e1 := cell_below B e1
          go_wp2
          go_ret
          exact ⟨rfl, BB⟩
      · cases x <;> cases t
        all_goals
          simp only [Bool.not_false, Bool.not_true] at CY CU
          go_enter Try.func3, Try.ntmps3
          go_wp2_with fail
          have k_c0 := cell_regrown c0
          have k_c1 := cell_regrown c1
          have k_d0 := cell_regrown d0
          have k_d1 := cell_regrown d1
          have k_e0 := cell_regrown e0
          have k_e1 := cell_regrown e1
          refine wp_region_quiet_below (by kernel_rfl) (by kernel_rfl) ?_
          repeat (first | go_big_quiet_step ((first | (go_at_call 10; with_reducible exact Calls.regrown_of (CF.out _)) | (go_at_call 10; with_reducible exact Calls.regrown_of (CG.out _)))) | quiet_step ((first | (go_at_call 10; with_reducible exact Calls.regrown_of (CF.out _)) | (go_at_call 10; with_reducible exact Calls.regrown_of (CG.out _)))))
          refine wpQuiet_nil ?_
          intro W hw'
          have B := below_regrown' hw'
          clear hw' k_c0 k_c1 k_d0 k_d1 k_e0 k_e1
          replace BB := bon BB B
          replace c0 := cell_below B c0
          replace c1 := cell_below B c1
          replace d0 := cell_below B d0
          replace d1 := cell_below B d1
          replace e0 := cell_below B e0
          replace e1 := cell_below B e1
          go_wp2_with fail
          have k_c0 := cell_regrown c0
          have k_c1 := cell_regrown c1
          have k_d0 := cell_regrown d0
          have k_d1 := cell_regrown d1
          have k_e0 := cell_regrown e0
          have k_e1 := cell_regrown e1
          refine wp_region_quiet_below (by kernel_rfl) (by kernel_rfl) ?_
          repeat (first | go_big_quiet_step ((first | (go_at_call 11; with_reducible exact Calls.regrown_of (CX.out _)) | (go_at_call 11; with_reducible exact Calls.regrown_of (CY.out _)))) | quiet_step ((first | (go_at_call 11; with_reducible exact Calls.regrown_of (CX.out _)) | (go_at_call 11; with_reducible exact Calls.regrown_of (CY.out _)))))
          refine wpQuiet_nil ?_
          intro W hw'
          have B := below_regrown' hw'
          clear hw' k_c0 k_c1 k_d0 k_d1 k_e0 k_e1
          replace BB := bon BB B
          replace c0 := cell_below B c0
          replace c1 := cell_below B c1
          replace d0 := cell_below B d0
          replace d1 := cell_below B d1
          replace e0 := cell_below B e0
          replace e1 := cell_below B e1
          go_wp2_with fail
          have k_c0 := cell_regrown c0
          have k_c1 := cell_regrown c1
          have k_d0 := cell_regrown d0
          have k_d1 := cell_regrown d1
          have k_e0 := cell_regrown e0
          have k_e1 := cell_regrown e1
          refine wp_region_quiet_below (by kernel_rfl) (by kernel_rfl) ?_
          repeat (first | go_big_quiet_step ((first | (go_at_call 12; with_reducible exact Calls.regrown_of (LA.out _)) | (go_at_call 12; with_reducible exact Calls.regrown_of (LB.out _)) | (go_at_call 12; with_reducible exact Calls.regrown_of (LC.out _)) | (go_at_call 12; with_reducible exact Calls.regrown_of (LD.out _)))) | quiet_step ((first | (go_at_call 12; with_reducible exact Calls.regrown_of (LA.out _)) | (go_at_call 12; with_reducible exact Calls.regrown_of (LB.out _)) | (go_at_call 12; with_reducible exact Calls.regrown_of (LC.out _)) | (go_at_call 12; with_reducible exact Calls.regrown_of (LD.out _)))))
          refine wpQuiet_nil ?_
          intro W hw'
          have B := below_regrown' hw'
          clear hw' k_c0 k_c1 k_d0 k_d1 k_e0 k_e1
          replace BB := bon BB B
          replace c0 := cell_below B c0
          replace c1 := cell_below B c1
          replace d0 := cell_below B d0
          replace d1 := cell_below B d1
          replace e0 := cell_below B e0
          replace e1 := cell_below B e1
          go_wp2_with fail
          have k_c0 := cell_regrown c0
          have k_c1 := cell_regrown c1
          have k_d0 := cell_regrown d0
          have k_d1 := cell_regrown d1
          have k_e0 := cell_regrown e0
          have k_e1 := cell_regrown e1
          refine wp_region_quiet_below (by kernel_rfl) (by kernel_rfl) ?_
          repeat (first | go_big_quiet_step ((first | (go_at_call 14; with_reducible exact Calls.regrown_of (CT.out _)) | (go_at_call 14; with_reducible exact Calls.regrown_of (CU.out _)) | (go_at_call 13; exact Calls.regrown_of (example34_b _)))) | quiet_step ((first | (go_at_call 14; with_reducible exact Calls.regrown_of (CT.out _)) | (go_at_call 14; with_reducible exact Calls.regrown_of (CU.out _)) | (go_at_call 13; exact Calls.regrown_of (example34_b _)))))
          refine wpQuiet_nil ?_
          intro W hw'
          have B := below_regrown' hw'
          clear hw' k_c0 k_c1 k_d0 k_d1 k_e0 k_e1
          replace BB := bon BB B
          replace c0 := cell_below B c0
          replace c1 := cell_below B c1
          replace d0 := cell_below B d0
          replace d1 := cell_below B d1
          replace e0 := cell_below B e0
          replace e1 := cell_below B e1
          go_wp2
          go_ret
          exact ⟨rfl, BB⟩
      · obtain rfl : x = true := by rcases h1 with h1 | h1; exact absurd h1 (by omega); exact h1
        have qd0 : decide (0 ≤ f) = true := decide_eq_true (by omega)
        have qd1 : decide (f ≤ 0) = false := decide_eq_false (by omega)
        cases t
        all_goals
          simp only [Bool.not_false, Bool.not_true] at CY CU
          go_enter Try.func3, Try.ntmps3
          go_wp2_with fail
          have k_c0 := cell_regrown c0
          have k_c1 := cell_regrown c1
          have k_d0 := cell_regrown d0
          have k_d1 := cell_regrown d1
          have k_e0 := cell_regrown e0
          have k_e1 := cell_regrown e1
          refine wp_region_quiet_below (by kernel_rfl) (by kernel_rfl) ?_
          repeat (first | go_big_quiet_step ((first | (go_at_call 10; with_reducible exact Calls.regrown_of (CF.out _)) | (go_at_call 10; with_reducible exact Calls.regrown_of (CG.out _)))) | quiet_step ((first | (go_at_call 10; with_reducible exact Calls.regrown_of (CF.out _)) | (go_at_call 10; with_reducible exact Calls.regrown_of (CG.out _)))))
          refine wpQuiet_nil ?_
          intro W hw'
          have B := below_regrown' hw'
          clear hw' k_c0 k_c1 k_d0 k_d1 k_e0 k_e1
          replace BB := bon BB B
          replace c0 := cell_below B c0
          replace c1 := cell_below B c1
          replace d0 := cell_below B d0
          replace d1 := cell_below B d1
          replace e0 := cell_below B e0
          replace e1 := cell_below B e1
          go_wp2_with fail
          have k_c0 := cell_regrown c0
          have k_c1 := cell_regrown c1
          have k_d0 := cell_regrown d0
          have k_d1 := cell_regrown d1
          have k_e0 := cell_regrown e0
          have k_e1 := cell_regrown e1
          refine wp_region_quiet_below (by kernel_rfl) (by kernel_rfl) ?_
          repeat (first | go_big_quiet_step ((first | (go_at_call 11; with_reducible exact Calls.regrown_of (CX.out _)) | (go_at_call 11; with_reducible exact Calls.regrown_of (CY.out _)))) | quiet_step ((first | (go_at_call 11; with_reducible exact Calls.regrown_of (CX.out _)) | (go_at_call 11; with_reducible exact Calls.regrown_of (CY.out _)))))
          refine wpQuiet_nil ?_
          intro W hw'
          have B := below_regrown' hw'
          clear hw' k_c0 k_c1 k_d0 k_d1 k_e0 k_e1
          replace BB := bon BB B
          replace c0 := cell_below B c0
          replace c1 := cell_below B c1
          replace d0 := cell_below B d0
          replace d1 := cell_below B d1
          replace e0 := cell_below B e0
          replace e1 := cell_below B e1
          go_wp2_with fail
          have k_c0 := cell_regrown c0
          have k_c1 := cell_regrown c1
          have k_d0 := cell_regrown d0
          have k_d1 := cell_regrown d1
          have k_e0 := cell_regrown e0
          have k_e1 := cell_regrown e1
          refine wp_region_quiet_below (by kernel_rfl) (by kernel_rfl) ?_
          repeat (first | go_big_quiet_step ((first | (go_at_call 12; with_reducible exact Calls.regrown_of (LA.out _)) | (go_at_call 12; with_reducible exact Calls.regrown_of (LB.out _)) | (go_at_call 12; with_reducible exact Calls.regrown_of (LC.out _)) | (go_at_call 12; with_reducible exact Calls.regrown_of (LD.out _)))) | quiet_step ((first | (go_at_call 12; with_reducible exact Calls.regrown_of (LA.out _)) | (go_at_call 12; with_reducible exact Calls.regrown_of (LB.out _)) | (go_at_call 12; with_reducible exact Calls.regrown_of (LC.out _)) | (go_at_call 12; with_reducible exact Calls.regrown_of (LD.out _)))))
          refine wpQuiet_nil ?_
          intro W hw'
          have B := below_regrown' hw'
          clear hw' k_c0 k_c1 k_d0 k_d1 k_e0 k_e1
          replace BB := bon BB B
          replace c0 := cell_below B c0
          replace c1 := cell_below B c1
          replace d0 := cell_below B d0
          replace d1 := cell_below B d1
          replace e0 := cell_below B e0
          replace e1 := cell_below B e1
          go_wp2_with fail
          have k_c0 := cell_regrown c0
          have k_c1 := cell_regrown c1
          have k_d0 := cell_regrown d0
          have k_d1 := cell_regrown d1
          have k_e0 := cell_regrown e0
          have k_e1 := cell_regrown e1
          refine wp_region_quiet_below (by kernel_rfl) (by kernel_rfl) ?_
          repeat (first | go_big_quiet_step ((first | (go_at_call 14; with_reducible exact Calls.regrown_of (CT.out _)) | (go_at_call 14; with_reducible exact Calls.regrown_of (CU.out _)) | (go_at_call 13; exact Calls.regrown_of (example34_b _)))) | quiet_step ((first | (go_at_call 14; with_reducible exact Calls.regrown_of (CT.out _)) | (go_at_call 14; with_reducible exact Calls.regrown_of (CU.out _)) | (go_at_call 13; exact Calls.regrown_of (example34_b _)))))
          refine wpQuiet_nil ?_
          intro W hw'
          have B := below_regrown' hw'
          clear hw' k_c0 k_c1 k_d0 k_d1 k_e0 k_e1
          replace BB := bon BB B
          replace c0 := cell_below B c0
          replace c1 := cell_below B c1
          replace d0 := cell_below B d0
          replace d1 := cell_below B d1
          replace e0 := cell_below B e0
          replace e1 := cell_below B e1
          go_wp2
          go_ret
          exact ⟨rfl, BB⟩

theorem shared_walk (ax ay bx by' px py : Int) (w : World) :
    Calls Try.prog 3 #[.agg #[.int .i64 ax, .int .i64 ay], .agg #[.int .i64 bx, .int .i64 by'], .agg #[.int .i64 px, .int .i64 py]] w fun e w' => e = .returned (.bool true) ∧ Below w.heap.size w w' := by
  refine shared_case ax ay bx by' px py _ _ _ _ _ rfl (efn_neg _ _ _ _ _ _) rfl rfl rfl rfl ?_ (efn_bd _ _ _ _ _ _) w
  by_cases h : onv ax = onv bx ∧ onv ay = onv by'
  · have h0 := efn_same ax ay bx by' px py h.1 h.2
    have h1 := efn_same bx by' ax ay px py h.1.symm h.2.symm
    have h2 := tlv_same ax ay bx by' h.1 h.2
    have h3 := tlv_same bx by' ax ay h.1.symm h.2.symm
    exact .inl ⟨h.1, h.2, h0, by simp [acc, h0, h2], by simp [acc, h1, h3]⟩
  · refine .inr ⟨h, ?_, tlv_neg _ _ _ _ h, ?_, ?_⟩
    · have h1 := efn_neg ax ay bx by' px py
      have h2 := tlv_neg ax ay bx by' h
      unfold acc
      rw [h1, h2]
      generalize efn ax ay bx by' px py = f
      cases tlv ax ay bx by' <;> rw [Bool.eq_iff_iff] <;> simp <;> omega
    · unfold acc
      generalize efn ax ay bx by' px py = f
      simp
      omega
    · have h1 := efn_neg ax ay bx by' px py
      unfold acc
      rw [h1]
      generalize efn ax ay bx by' px py = f
      simp
      omega

end Go.Proofs.Ythooembneegkhaa
