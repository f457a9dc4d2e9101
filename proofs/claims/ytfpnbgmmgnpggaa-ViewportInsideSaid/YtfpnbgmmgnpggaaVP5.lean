/- The walk of ViewportInside. -/
import Derived.Test.YtfpnbgmmgnpggaaVP4
namespace Go.Proofs.Ytfpnbgmmgnpggaa
set_option linter.unusedSimpArgs false
open Go.RowKit Go.Sort Go.ChangeShapes Go.WideShapes
set_option linter.unusedVariables false

set_option maxRecDepth 100000 in
set_option maxHeartbeats 2000000 in
theorem inside_no (w : World) (x y ww hh mn mx : Int) (X Y Z V : Int) (A : Option Addr) (n c : Nat) (h : vvalid x y ww hh mn mx = false) : Calls Try.prog 8 #[.agg #[.int .i64 x, .int .i64 y, .int .i64 ww, .int .i64 hh, .int .i64 mn, .int .i64 mx], .agg #[.int .i64 X, .int .i64 Y, .int .i64 Z, .int .i64 V, .slice A n c]] w fun e w' => e = .returned (.bool true) ∧ Below w.heap.size w w' := by
  have BB := box_below w #[.int .i64 x, .int .i64 y, .int .i64 ww, .int .i64 hh, .int .i64 mn, .int .i64 mx] 23
  have X0 := EBox.made w #[.int .i64 x, .int .i64 y, .int .i64 ww, .int .i64 hh, .int .i64 mn, .int .i64 mx] 23
  have hsz1 : (w.alloc (.cells #[.int .i64 x, .int .i64 y, .int .i64 ww, .int .i64 hh, .int .i64 mn, .int .i64 mx] 23)).heap.size = w.heap.size + 1 := by simp
  have X1 := EBox.made (w.alloc (.cells #[.int .i64 x, .int .i64 y, .int .i64 ww, .int .i64 hh, .int .i64 mn, .int .i64 mx] 23)) #[.int .i64 X, .int .i64 Y, .int .i64 Z, .int .i64 V, .slice A n c] 37
  rw [hsz1] at X1
  replace X0 := X0.on (Nat.succ_pos _) (box_below (w.alloc (.cells #[.int .i64 x, .int .i64 y, .int .i64 ww, .int .i64 hh, .int .i64 mn, .int .i64 mx] 23)) #[.int .i64 X, .int .i64 Y, .int .i64 Z, .int .i64 V, .slice A n c] 37)
  replace BB := bon BB (box_below (w.alloc (.cells #[.int .i64 x, .int .i64 y, .int .i64 ww, .int .i64 hh, .int .i64 mn, .int .i64 mx] 23)) #[.int .i64 X, .int .i64 Y, .int .i64 Z, .int .i64 V, .slice A n c] 37)
  clear hsz1
  have c0 := X0.cell (i := 0) rfl
  have c1 := X0.cell (i := 1) rfl
  have c2 := X0.cell (i := 2) rfl
  have c3 := X0.cell (i := 3) rfl
  have c4 := X0.cell (i := 4) rfl
  have c5 := X0.cell (i := 5) rfl
  have Evp := range_cut X0.1 0 6
  simp only [List.drop_succ_cons, List.drop_zero, List.take_succ_cons, List.take_zero, Nat.zero_add] at Evp
  have p4 := X1.cell (i := 4) rfl
  have Evx := range_cut X1.1 0 5
  simp only [List.drop_succ_cons, List.drop_zero, List.take_succ_cons, List.take_zero, Nat.zero_add] at Evx
  clear X0 X1
  have CT := Lib.hid (fun W => transform_no x y ww hh mn mx X Y Z V A n c h W)
  have CV := Lib.hid (fun W => vvalid_b x y ww hh mn mx W)
  rw [h] at CV
  clear h
  go_enter Try.func8, Try.ntmps8
  go_wp2_with (first
    | ((with_reducible refine eload6L rk_vp Evp ?_ ?_); focus rfl)
    | ((with_reducible refine eload5L rk_vx Evx ?_ ?_); focus rfl)
    | (go_at_call 22; refine (CT.out _).mono ?_; rintro _ W1 ⟨rfl, B⟩; clear c0 c1 c2 c3 c4 c5 p4 Evx; replace BB := bon BB (bon B (box_below W1 #[.int .i64 0, .int .i64 0, .int .i64 0, .int .i64 0, .slice none 0 0] 29)); replace Evp := rangeAt_on Evp (bon B (box_below W1 #[.int .i64 0, .int .i64 0, .int .i64 0, .int .i64 0, .slice none 0 0] 29)); have g0 := box_cell W1 #[.int .i64 0, .int .i64 0, .int .i64 0, .int .i64 0, .slice none 0 0] 29 0 _ rfl; have g1 := box_cell W1 #[.int .i64 0, .int .i64 0, .int .i64 0, .int .i64 0, .slice none 0 0] 29 1 _ rfl; have g2 := box_cell W1 #[.int .i64 0, .int .i64 0, .int .i64 0, .int .i64 0, .slice none 0 0] 29 2 _ rfl; have g3 := box_cell W1 #[.int .i64 0, .int .i64 0, .int .i64 0, .int .i64 0, .slice none 0 0] 29 3 _ rfl; have g4 := box_cell W1 #[.int .i64 0, .int .i64 0, .int .i64 0, .int .i64 0, .slice none 0 0] 29 4 _ rfl; clear B)
    | (go_at_call 11; refine (CV.out _).mono ?_; rintro _ W2 ⟨rfl, B⟩; replace BB := bon BB B; replace g0 := cell_below B g0; replace g1 := cell_below B g1; replace g2 := cell_below B g2; replace g3 := cell_below B g3; replace g4 := cell_below B g4; clear B Evp)
    | (go_at_call 15; refine (example32_b _).mono ?_; rintro _ _ ⟨rfl, B⟩; replace BB := bon BB B; clear B))
  go_ret
  exact ⟨rfl, BB⟩

set_option maxRecDepth 100000 in
set_option maxHeartbeats 4000000 in
theorem inside_yes (w : World) (x y ww hh mn mx : Int) (X Y Z V : Int) (A : Option Addr) (n c : Nat) (x1 y1 z1 q1 : Int) (h : vvalid x y ww hh mn mx = true) (hT : Hid (∀ W : World, Below w.heap.size w W → Calls Try.prog 22 #[.agg #[.int .i64 x, .int .i64 y, .int .i64 ww, .int .i64 hh, .int .i64 mn, .int .i64 mx], .agg #[.int .i64 X, .int .i64 Y, .int .i64 Z, .int .i64 V, .slice A n c]] W fun e w' => ∃ A9 c9, e = .returned (.agg #[.int .i64 x1, .int .i64 y1, .int .i64 z1, .int .i64 q1, .slice A9 n c9]) ∧ Below W.heap.size W w'))
    (h1 : x * 256 ≤ x1) (h2 : x1 ≤ (x + ww) * 256) (h3 : y * 256 ≤ y1) (h4 : y1 ≤ (y + hh) * 256) (h5 : mn ≤ z1) (h6 : z1 ≤ mx) (h7 : 0 ≤ q1) (h8 : q1 ≤ 16777216) : Calls Try.prog 8 #[.agg #[.int .i64 x, .int .i64 y, .int .i64 ww, .int .i64 hh, .int .i64 mn, .int .i64 mx], .agg #[.int .i64 X, .int .i64 Y, .int .i64 Z, .int .i64 V, .slice A n c]] w fun e w' => e = .returned (.bool true) ∧ Below w.heap.size w w' := by
  have BB := box_below w #[.int .i64 x, .int .i64 y, .int .i64 ww, .int .i64 hh, .int .i64 mn, .int .i64 mx] 23
  have X0 := EBox.made w #[.int .i64 x, .int .i64 y, .int .i64 ww, .int .i64 hh, .int .i64 mn, .int .i64 mx] 23
  have hsz1 : (w.alloc (.cells #[.int .i64 x, .int .i64 y, .int .i64 ww, .int .i64 hh, .int .i64 mn, .int .i64 mx] 23)).heap.size = w.heap.size + 1 := by simp
  have X1 := EBox.made (w.alloc (.cells #[.int .i64 x, .int .i64 y, .int .i64 ww, .int .i64 hh, .int .i64 mn, .int .i64 mx] 23)) #[.int .i64 X, .int .i64 Y, .int .i64 Z, .int .i64 V, .slice A n c] 37
  rw [hsz1] at X1
  replace X0 := X0.on (Nat.succ_pos _) (box_below (w.alloc (.cells #[.int .i64 x, .int .i64 y, .int .i64 ww, .int .i64 hh, .int .i64 mn, .int .i64 mx] 23)) #[.int .i64 X, .int .i64 Y, .int .i64 Z, .int .i64 V, .slice A n c] 37)
  replace BB := bon BB (box_below (w.alloc (.cells #[.int .i64 x, .int .i64 y, .int .i64 ww, .int .i64 hh, .int .i64 mn, .int .i64 mx] 23)) #[.int .i64 X, .int .i64 Y, .int .i64 Z, .int .i64 V, .slice A n c] 37)
  clear hsz1
  have c0 := X0.cell (i := 0) rfl
  have c1 := X0.cell (i := 1) rfl
  have c2 := X0.cell (i := 2) rfl
  have c3 := X0.cell (i := 3) rfl
  have c4 := X0.cell (i := 4) rfl
  have c5 := X0.cell (i := 5) rfl
  have Evp := range_cut X0.1 0 6
  simp only [List.drop_succ_cons, List.drop_zero, List.take_succ_cons, List.take_zero, Nat.zero_add] at Evp
  have p4 := X1.cell (i := 4) rfl
  have Evx := range_cut X1.1 0 5
  simp only [List.drop_succ_cons, List.drop_zero, List.take_succ_cons, List.take_zero, Nat.zero_add] at Evx
  clear X0 X1
  have CV := Lib.hid (fun W => vvalid_b x y ww hh mn mx W)
  rw [h] at CV
  obtain ⟨⟨v1, v2, v3, v4⟩, ⟨v5, v6, v7, v8⟩, v9, v10, v11⟩ := vvalid_yes h
  clear h
  go_enter Try.func8, Try.ntmps8
  go_wp2_with (first
    | ((with_reducible refine eload6L rk_vp Evp ?_ ?_); focus rfl)
    | ((with_reducible refine eload5L rk_vx Evx ?_ ?_); focus rfl)
    | (go_at_call 22; refine (hT.out _ BB).mono ?_; rintro _ W1 ⟨A9, c9, rfl, B⟩; clear Evx; replace c0 := cell_below (bon B (box_below W1 #[.int .i64 x1, .int .i64 y1, .int .i64 z1, .int .i64 q1, .slice A9 n c9] 29)) c0; replace c1 := cell_below (bon B (box_below W1 #[.int .i64 x1, .int .i64 y1, .int .i64 z1, .int .i64 q1, .slice A9 n c9] 29)) c1; replace c2 := cell_below (bon B (box_below W1 #[.int .i64 x1, .int .i64 y1, .int .i64 z1, .int .i64 q1, .slice A9 n c9] 29)) c2; replace c3 := cell_below (bon B (box_below W1 #[.int .i64 x1, .int .i64 y1, .int .i64 z1, .int .i64 q1, .slice A9 n c9] 29)) c3; replace c4 := cell_below (bon B (box_below W1 #[.int .i64 x1, .int .i64 y1, .int .i64 z1, .int .i64 q1, .slice A9 n c9] 29)) c4; replace c5 := cell_below (bon B (box_below W1 #[.int .i64 x1, .int .i64 y1, .int .i64 z1, .int .i64 q1, .slice A9 n c9] 29)) c5; replace p4 := cell_below (bon B (box_below W1 #[.int .i64 x1, .int .i64 y1, .int .i64 z1, .int .i64 q1, .slice A9 n c9] 29)) p4; replace Evp := rangeAt_on Evp (bon B (box_below W1 #[.int .i64 x1, .int .i64 y1, .int .i64 z1, .int .i64 q1, .slice A9 n c9] 29)); replace BB := bon BB (bon B (box_below W1 #[.int .i64 x1, .int .i64 y1, .int .i64 z1, .int .i64 q1, .slice A9 n c9] 29)); have g0 := box_cell W1 #[.int .i64 x1, .int .i64 y1, .int .i64 z1, .int .i64 q1, .slice A9 n c9] 29 0 _ rfl; have g1 := box_cell W1 #[.int .i64 x1, .int .i64 y1, .int .i64 z1, .int .i64 q1, .slice A9 n c9] 29 1 _ rfl; have g2 := box_cell W1 #[.int .i64 x1, .int .i64 y1, .int .i64 z1, .int .i64 q1, .slice A9 n c9] 29 2 _ rfl; have g3 := box_cell W1 #[.int .i64 x1, .int .i64 y1, .int .i64 z1, .int .i64 q1, .slice A9 n c9] 29 3 _ rfl; have g4 := box_cell W1 #[.int .i64 x1, .int .i64 y1, .int .i64 z1, .int .i64 q1, .slice A9 n c9] 29 4 _ rfl; clear B)
    | (go_at_call 11; refine (CV.out _).mono ?_; rintro _ W2 ⟨rfl, B⟩; replace c0 := cell_below B c0; replace c1 := cell_below B c1; replace c2 := cell_below B c2; replace c3 := cell_below B c3; replace c4 := cell_below B c4; replace c5 := cell_below B c5; replace p4 := cell_below B p4; replace BB := bon BB B; replace g0 := cell_below B g0; replace g1 := cell_below B g1; replace g2 := cell_below B g2; replace g3 := cell_below B g3; replace g4 := cell_below B g4; clear B Evp)
    | (go_at_call 15; refine (example32_b _).mono ?_; rintro _ _ ⟨rfl, B⟩; replace BB := bon BB B; clear B))
  go_ret
  exact ⟨ret_bool (by first | rfl | simp_all), BB⟩

theorem inside_walk (w : World) (x y ww hh mn mx : Int) (X Y Z V : Int) (A : Option Addr) (n c : Nat) (l : List Int) (R : Rd w w.heap.size .i64 A n l) (hn : n * 8 ≤ 140737488351232) : Calls Try.prog 8 #[.agg #[.int .i64 x, .int .i64 y, .int .i64 ww, .int .i64 hh, .int .i64 mn, .int .i64 mx], .agg #[.int .i64 X, .int .i64 Y, .int .i64 Z, .int .i64 V, .slice A n c]] w fun e w' => e = .returned (.bool true) ∧ Below w.heap.size w w' := by
  cases h : vvalid x y ww hh mn mx
  · exact inside_no w x y ww hh mn mx X Y Z V A n c h
  · obtain ⟨⟨v1, v2, v3, v4⟩, ⟨v5, v6, v7, v8⟩, v9, v10, v11⟩ := vvalid_yes h
    have hc := coord_bd x ww X V
    have hd := coord_bd y hh (-sat Y) V
    rw [show clampv x 0 64 = x by unfold clampv; grind, show clampv ww 0 64 = ww by unfold clampv; grind] at hc
    rw [show clampv y 0 64 = y by unfold clampv; grind, show clampv hh 0 64 = hh by unfold clampv; grind] at hd
    have he := depthv_bd mn mx Z V v9 v10 v11
    have hf := invw_bd V
    exact inside_yes w x y ww hh mn mx X Y Z V A n c _ _ _ _ h (Lib.hid fun W B => (transform_yes x y ww hh mn mx X Y Z V A n c l h W ((R.below B).more B.size) hn).mono fun _ _ ⟨A9, c9, e, _, B⟩ => ⟨A9, c9, e, B⟩) hc.1 hc.2 hd.1 hd.2 he.1 he.2 hf.1 hf.2

end Go.Proofs.Ytfpnbgmmgnpggaa
