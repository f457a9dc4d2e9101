/- The example; the walks of ViewportValid, ViewportCoordinates, ViewportDepths, ViewportMonotonic, ViewportInside. -/
import Derived.Test.YtfpnbgmmgnpggaaVP3
namespace Go.Proofs.Ytfpnbgmmgnpggaa
set_option linter.unusedSimpArgs false
open Go.RowKit Go.Sort Go.ChangeShapes Go.WideShapes
set_option linter.unusedVariables false

theorem rk_vx : RowK Try.prog 37 5 := ⟨⟨_, Try.underlying37, rfl⟩, by kernel_rfl⟩

theorem ex_nums : coord 0 64 0 65536 = 8192 ∧ coord 0 64 (-sat 0) 65536 = 8192 ∧ depthv 0 65536 0 65536 = 0 ∧ ovw 65536 65536 = 65536 := by decide

theorem ex_transform (w : World) : Calls Try.prog 22 #[.agg #[.int .i64 0, .int .i64 0, .int .i64 64, .int .i64 64, .int .i64 0, .int .i64 65536], .agg #[.int .i64 0, .int .i64 0, .int .i64 0, .int .i64 65536, .slice none 0 0]] w fun e w' => ∃ A9 c9, e = .returned (.agg #[.int .i64 8192, .int .i64 8192, .int .i64 0, .int .i64 65536, .slice A9 0 c9]) ∧ Below w.heap.size w w' := by
  refine (transform_yes 0 0 64 64 0 65536 0 0 0 65536 none 0 0 [] (by decide) w (Rd.nil _ _ _ _) (by omega)).mono ?_
  rintro _ _ ⟨A9, c9, rfl, _, B⟩
  refine ⟨A9, c9, ?_, B⟩
  rw [ex_nums.1, ex_nums.2.1, ex_nums.2.2.1, ex_nums.2.2.2]

theorem ex_valid (w : World) : Calls Try.prog 11 #[.agg #[.int .i64 0, .int .i64 0, .int .i64 64, .int .i64 64, .int .i64 0, .int .i64 65536]] w fun e w' => e = .returned (.bool true) ∧ Below w.heap.size w w' := vvalid_b 0 0 64 64 0 65536 w

set_option maxRecDepth 100000 in
set_option maxHeartbeats 1000000 in
theorem example32_b (w : World) : Calls Try.prog 15 #[] w fun e w' => e = .returned (.bool true) ∧ Below w.heap.size w w' := by
  have BB := box_below w #[.int .i64 0, .int .i64 0, .int .i64 64, .int .i64 64, .int .i64 0, .int .i64 65536] 23
  have X0 := EBox.made w #[.int .i64 0, .int .i64 0, .int .i64 64, .int .i64 64, .int .i64 0, .int .i64 65536] 23
  have Evp := range_cut X0.1 0 6
  simp only [List.drop_succ_cons, List.drop_zero, List.take_succ_cons, List.take_zero, Nat.zero_add] at Evp
  clear X0
  go_enter Try.func15, Try.ntmps15
  go_wp2_with (first
    | ((with_reducible refine eload6L rk_vp Evp ?_ ?_); focus rfl)
    | (go_at_call 22; refine (ex_transform _).mono ?_; rintro _ W1 ⟨A9, c9, rfl, B⟩; replace BB := bon BB (bon B (box_below W1 #[.int .i64 8192, .int .i64 8192, .int .i64 0, .int .i64 65536, .slice A9 0 c9] 29)); replace Evp := rangeAt_on Evp (bon B (box_below W1 #[.int .i64 8192, .int .i64 8192, .int .i64 0, .int .i64 65536, .slice A9 0 c9] 29)); have g0 := box_cell W1 #[.int .i64 8192, .int .i64 8192, .int .i64 0, .int .i64 65536, .slice A9 0 c9] 29 0 _ rfl; have g1 := box_cell W1 #[.int .i64 8192, .int .i64 8192, .int .i64 0, .int .i64 65536, .slice A9 0 c9] 29 1 _ rfl; have g2 := box_cell W1 #[.int .i64 8192, .int .i64 8192, .int .i64 0, .int .i64 65536, .slice A9 0 c9] 29 2 _ rfl; have g3 := box_cell W1 #[.int .i64 8192, .int .i64 8192, .int .i64 0, .int .i64 65536, .slice A9 0 c9] 29 3 _ rfl; clear B)
    | (go_at_call 11; refine (ex_valid _).mono ?_; rintro _ W2 ⟨rfl, B⟩; replace BB := bon BB B; replace g0 := cell_below B g0; replace g1 := cell_below B g1; replace g2 := cell_below B g2; replace g3 := cell_below B g3; clear B Evp))
  go_ret
  exact ⟨rfl, BB⟩

set_option maxRecDepth 100000 in
theorem coordinates_walk (low size n v : Int) (w : World) : Calls Try.prog 5 #[.int .i64 low, .int .i64 size, .int .i64 n, .int .i64 v] w fun e w' => e = .returned (.bool true) ∧ Below w.heap.size w w' := by
  have BB := Below.refl w.heap.size w
  go_enter Try.func5, Try.ntmps5
  go_wp2_with (first | (go_at_call 18; refine (coord_b low size n v _).mono ?_; rintro _ _ ⟨rfl, B⟩; replace BB := bon BB B) | (go_at_call 19; refine (rcoord_b low size n v _).mono ?_; rintro _ _ ⟨rfl, B⟩; replace BB := bon BB B) | (go_at_call 15; refine (example32_b _).mono ?_; rintro _ _ ⟨rfl, B⟩; replace BB := bon BB B))
  go_ret
  exact ⟨rfl, BB⟩

set_option maxRecDepth 100000 in
set_option maxHeartbeats 1000000 in
theorem depths_walk (x y ww hh mn mx : Int) (z v : Int) (b0 : -9223372036854775808 ≤ x ∧ x ≤ 9223372036854775807) (b1 : -9223372036854775808 ≤ y ∧ y ≤ 9223372036854775807) (b2 : -9223372036854775808 ≤ ww ∧ ww ≤ 9223372036854775807) (b3 : -9223372036854775808 ≤ hh ∧ hh ≤ 9223372036854775807) (b4 : -9223372036854775808 ≤ mn ∧ mn ≤ 9223372036854775807) (b5 : -9223372036854775808 ≤ mx ∧ mx ≤ 9223372036854775807) (w : World) : Calls Try.prog 6 #[.agg #[.int .i64 x, .int .i64 y, .int .i64 ww, .int .i64 hh, .int .i64 mn, .int .i64 mx], .int .i64 z, .int .i64 v] w fun e w' => e = .returned (.bool true) ∧ Below w.heap.size w w' := by
  have BB := box_below w #[.int .i64 x, .int .i64 y, .int .i64 ww, .int .i64 hh, .int .i64 mn, .int .i64 mx] 23
  have X0 := EBox.made w #[.int .i64 x, .int .i64 y, .int .i64 ww, .int .i64 hh, .int .i64 mn, .int .i64 mx] 23
  have c0 := X0.cell (i := 0) rfl
  have c1 := X0.cell (i := 1) rfl
  have c2 := X0.cell (i := 2) rfl
  have c3 := X0.cell (i := 3) rfl
  have c4 := X0.cell (i := 4) rfl
  have c5 := X0.cell (i := 5) rfl
  have Evp := range_cut X0.1 0 6
  simp only [List.drop_succ_cons, List.drop_zero, List.take_succ_cons, List.take_zero, Nat.zero_add] at Evp
  clear X0
  have H1 := Lib.hid (depth_b x y ww hh mn mx b4 b5 z v)
  have H2 := Lib.hid (rdepth_b x y ww hh mn mx b4 b5 z v)
  clear b0 b1 b2 b3 b4 b5
  go_enter Try.func6, Try.ntmps6
  go_wp2_with fail
  have k_c0 := cell_regrown c0
  have k_c1 := cell_regrown c1
  have k_c2 := cell_regrown c2
  have k_c3 := cell_regrown c3
  have k_c4 := cell_regrown c4
  have k_c5 := cell_regrown c5
  refine wp_region_quiet_below (by kernel_rfl) (by kernel_rfl) ?_
  repeat (first | (go_big_quiet_want; refine quiet_eload _ _ rfl rk_vp rfl (fun W hW => rangeAt_on Evp (below_regrown' hW)) rfl ?_; go_simp; go_big_quiet_on) | go_big_quiet_step ((first | (go_at_call 20; exact Calls.regrown_of (H1.out _)) | (go_at_call 21; exact Calls.regrown_of (H2.out _)) | (go_at_call 15; exact Calls.regrown_of (example32_b _)))) | quiet_step ((first | (go_at_call 20; exact Calls.regrown_of (H1.out _)) | (go_at_call 21; exact Calls.regrown_of (H2.out _)) | (go_at_call 15; exact Calls.regrown_of (example32_b _)))))
  refine wpQuiet_nil ?_
  intro W hw'
  have B := below_regrown' hw'
  clear hw' k_c0 k_c1 k_c2 k_c3 k_c4 k_c5
  replace BB := bon BB B
  replace c0 := cell_below B c0
  replace c1 := cell_below B c1
  replace c2 := cell_below B c2
  replace c3 := cell_below B c3
  replace c4 := cell_below B c4
  replace c5 := cell_below B c5
  replace Evp := rangeAt_on Evp B
  go_wp2
  go_ret
  exact ⟨rfl, BB⟩

set_option maxRecDepth 100000 in
set_option maxHeartbeats 1000000 in
theorem valid_walk (x y ww hh mn mx : Int) (px py : Int) (b0 : -9223372036854775808 ≤ x ∧ x ≤ 9223372036854775807) (b1 : -9223372036854775808 ≤ y ∧ y ≤ 9223372036854775807) (b2 : -9223372036854775808 ≤ ww ∧ ww ≤ 9223372036854775807) (b3 : -9223372036854775808 ≤ hh ∧ hh ≤ 9223372036854775807) (b4 : -9223372036854775808 ≤ mn ∧ mn ≤ 9223372036854775807) (b5 : -9223372036854775808 ≤ mx ∧ mx ≤ 9223372036854775807) (b6 : -9223372036854775808 ≤ px ∧ px ≤ 9223372036854775807) (b7 : -9223372036854775808 ≤ py ∧ py ≤ 9223372036854775807) (w : World) : Calls Try.prog 3 #[.agg #[.int .i64 x, .int .i64 y, .int .i64 ww, .int .i64 hh, .int .i64 mn, .int .i64 mx], .int .i64 px, .int .i64 py] w fun e w' => e = .returned (.bool true) ∧ Below w.heap.size w w' := by
  have BB := box_below w #[.int .i64 x, .int .i64 y, .int .i64 ww, .int .i64 hh, .int .i64 mn, .int .i64 mx] 23
  have X0 := EBox.made w #[.int .i64 x, .int .i64 y, .int .i64 ww, .int .i64 hh, .int .i64 mn, .int .i64 mx] 23
  have c0 := X0.cell (i := 0) rfl
  have c1 := X0.cell (i := 1) rfl
  have c2 := X0.cell (i := 2) rfl
  have c3 := X0.cell (i := 3) rfl
  have c4 := X0.cell (i := 4) rfl
  have c5 := X0.cell (i := 5) rfl
  have Evp := range_cut X0.1 0 6
  simp only [List.drop_succ_cons, List.drop_zero, List.take_succ_cons, List.take_zero, Nat.zero_add] at Evp
  clear X0
  have H1 := Lib.hid (contains_b x y ww hh mn mx b0 b1 b2 b3 px py b6 b7)
  have H2 := Lib.hid (rcontains_b x y ww hh mn mx b0 b1 b2 b3 px py b6 b7)
  clear b0 b1 b2 b3 b4 b5 b6 b7
  go_enter Try.func3, Try.ntmps3
  go_wp2_with fail
  have k_c0 := cell_regrown c0
  have k_c1 := cell_regrown c1
  have k_c2 := cell_regrown c2
  have k_c3 := cell_regrown c3
  have k_c4 := cell_regrown c4
  have k_c5 := cell_regrown c5
  refine wp_region_quiet_below (by kernel_rfl) (by kernel_rfl) ?_
  repeat (first | (go_big_quiet_want; refine quiet_eload _ _ rfl rk_vp rfl (fun W hW => rangeAt_on Evp (below_regrown' hW)) rfl ?_; go_simp; go_big_quiet_on) | go_big_quiet_step ((first | (go_at_call 11; exact Calls.regrown_of (vvalid_b x y ww hh mn mx _)) | (go_at_call 12; exact Calls.regrown_of (rvvalid_b x y ww hh mn mx _)) | (go_at_call 13; exact Calls.regrown_of (H1.out _)) | (go_at_call 14; exact Calls.regrown_of (H2.out _)) | (go_at_call 15; exact Calls.regrown_of (example32_b _)))) | quiet_step ((first | (go_at_call 11; exact Calls.regrown_of (vvalid_b x y ww hh mn mx _)) | (go_at_call 12; exact Calls.regrown_of (rvvalid_b x y ww hh mn mx _)) | (go_at_call 13; exact Calls.regrown_of (H1.out _)) | (go_at_call 14; exact Calls.regrown_of (H2.out _)) | (go_at_call 15; exact Calls.regrown_of (example32_b _)))))
  refine wpQuiet_nil ?_
  intro W hw'
  have B := below_regrown' hw'
  clear hw' k_c0 k_c1 k_c2 k_c3 k_c4 k_c5
  replace BB := bon BB B
  replace c0 := cell_below B c0
  replace c1 := cell_below B c1
  replace c2 := cell_below B c2
  replace c3 := cell_below B c3
  replace c4 := cell_below B c4
  replace c5 := cell_below B c5
  replace Evp := rangeAt_on Evp B
  go_wp2
  go_ret
  exact ⟨rfl, BB⟩

theorem coord_at (low size n v r : Int) (h : coord low size n v = r) (w : World) : Calls Try.prog 18 #[.int .i64 low, .int .i64 size, .int .i64 n, .int .i64 v] w fun e w' => e = .returned (.int .i64 r) ∧ Below w.heap.size w w' := h ▸ coord_b low size n v w

set_option maxRecDepth 100000 in
set_option maxHeartbeats 1000000 in
theorem monotonic_walk (low size n m v : Int) (w : World) : Calls Try.prog 9 #[.int .i64 low, .int .i64 size, .int .i64 n, .int .i64 m, .int .i64 v] w fun e w' => e = .returned (.bool true) ∧ Below w.heap.size w w' := by
  have BB := Below.refl w.heap.size w
  rcases (show low < 0 ∨ (0 ≤ low ∧ 64 < low) ∨ (0 ≤ low ∧ low ≤ 64 ∧ size < 0) ∨ (0 ≤ low ∧ low ≤ 64 ∧ 0 ≤ size ∧ 64 < size) ∨ (0 ≤ low ∧ low ≤ 64 ∧ 0 ≤ size ∧ size ≤ 64 ∧ v < 256) ∨ (0 ≤ low ∧ low ≤ 64 ∧ 0 ≤ size ∧ size ≤ 64 ∧ 256 ≤ v ∧ 536870911 < v) ∨ (0 ≤ low ∧ low ≤ 64 ∧ 0 ≤ size ∧ size ≤ 64 ∧ 256 ≤ v ∧ v ≤ 536870911 ∧ m < n) ∨ (0 ≤ low ∧ low ≤ 64 ∧ 0 ≤ size ∧ size ≤ 64 ∧ 256 ≤ v ∧ v ≤ 536870911 ∧ n ≤ m) by omega)
    with h1 | ⟨h1, h2⟩ | ⟨h1, h2, h3⟩ | ⟨h1, h2, h3, h4⟩ | ⟨h1, h2, h3, h4, h5⟩ | ⟨h1, h2, h3, h4, h5, h6⟩ | ⟨h1, h2, h3, h4, h5, h6, h7⟩ | ⟨h1, h2, h3, h4, h5, h6, h7⟩
  iterate 7
    · go_enter Try.func9, Try.ntmps9
      go_wp2_with (first | (go_at_call 15; refine (example32_b _).mono ?_; rintro _ _ ⟨rfl, B⟩; replace BB := bon BB B))
      go_ret
      exact ⟨rfl, BB⟩
  have hm := coord_mono low size n m v h6 h7
  obtain ⟨e1, e2, e3⟩ := coord_ends low size v ⟨h1, h2⟩ ⟨h3, h4⟩ h5 h6
  have D0 := fun W => coord_b low size n v W
  have D1 := fun W => coord_b low size m v W
  obtain ⟨p, hp⟩ : ∃ p, coord low size n v = p := ⟨_, rfl⟩
  obtain ⟨q, hq⟩ : ∃ q, coord low size m v = q := ⟨_, rfl⟩
  rw [hp] at D0 hm
  rw [hq] at D1 hm
  have C0 := Lib.hid D0
  have C1 := Lib.hid D1
  have C2 := Lib.hid (fun W => coord_at low size v v _ e1 W)
  have C3 := Lib.hid (fun W => coord_at low size (-v) v _ e2 W)
  have C4 := Lib.hid (fun W => coord_at low size 0 v _ e3 W)
  have ht : (size * 256).tdiv 2 = size * 128 := by rw [Int.tdiv_eq_ediv_of_nonneg (by omega)]; omega
  clear D0 D1 e1 e2 e3 hp hq
  go_enter Try.func9, Try.ntmps9
  go_wp2_with (first
    | (go_at_call 18; first
        | ((with_reducible refine (C0.out _).mono ?_); rintro _ _ ⟨rfl, B⟩; (replace BB := bon BB B))
        | ((with_reducible refine (C1.out _).mono ?_); rintro _ _ ⟨rfl, B⟩; (replace BB := bon BB B))
        | ((with_reducible refine (C2.out _).mono ?_); rintro _ _ ⟨rfl, B⟩; (replace BB := bon BB B))
        | ((with_reducible refine (C3.out _).mono ?_); rintro _ _ ⟨rfl, B⟩; (replace BB := bon BB B))
        | ((with_reducible refine (C4.out _).mono ?_); rintro _ _ ⟨rfl, B⟩; (replace BB := bon BB B)))
    | (first | (go_at_call 15; refine (example32_b _).mono ?_; rintro _ _ ⟨rfl, B⟩; replace BB := bon BB B)))
  go_ret
  exact ⟨ret_bool (by first | rfl | simp_all | (simp; omega)), BB⟩

end Go.Proofs.Ytfpnbgmmgnpggaa
