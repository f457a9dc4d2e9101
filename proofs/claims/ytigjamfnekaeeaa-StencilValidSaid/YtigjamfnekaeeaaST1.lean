/- What the small functions of package stencil and of the reference return. -/
import Derived.Test.YtigjamfnekaeeaaSTMath
import Derived.Test.YtigjamfnekaeeaaDP1
import Derived.Test.YtigjamfnekaeeaaRowN
import Derived.Test.YtigjamfnekaeeaaTail
namespace Go.Proofs.Ytigjamfnekaeeaa
set_option linter.unusedSimpArgs false
open Go.RowKit Go.Sort Go.ChangeShapes Go.WideShapes
set_option linter.unusedVariables false

theorem rk_ss : RowK Try.prog 27 12 := ⟨⟨_, Try.underlying27, rfl⟩, by kernel_rfl⟩

theorem rk_sf : RowK Try.prog 25 4 := ⟨⟨_, Try.underlying25, rfl⟩, by kernel_rfl⟩

theorem reduced_b (x : Int) (w : World) : Calls Try.prog 21 #[.int .i64 x] w fun e w' => e = .returned (.int .i64 (x % 256)) ∧ Below w.heap.size w w' := by
  have h := and_low255 x
  go_enter Try.func21, Try.ntmps21
  go_wp2
  go_ret
  exact ⟨rfl, Below.refl _ _⟩

theorem rreduced_b (x : Int) (w : World) : Calls Try.prog 22 #[.int .i64 x] w fun e w' => e = .returned (.int .i64 (x % 256)) ∧ Below w.heap.size w w' := by
  have h := tmod256 x
  obtain ⟨h1, h2, h3⟩ := h
  go_enter Try.func22, Try.ntmps22
  go_wp2
  go_ret
  exact ⟨rfl, Below.refl _ _⟩

set_option maxRecDepth 100000 in
set_option maxHeartbeats 1000000 in
theorem apply_b (op v r : Int) (w : World) : Calls Try.prog 11 #[.int .i64 op, .int .i64 v, .int .i64 r] w fun e w' => e = .returned (.int .i64 (aply op v r)) ∧ Below w.heap.size w w' := by
  have BB := Below.refl w.heap.size w
  have h0 : 0 ≤ v % 256 ∧ v % 256 ≤ 255 := by omega
  rcases op_cases op with rfl | rfl | rfl | rfl | rfl | rfl | rfl | ⟨h2, h3, h4, h5, h6, h7, h8⟩
  all_goals
    go_enter Try.func11, Try.ntmps11
    go_wp2_with (first | (go_at_call 21; refine (reduced_b _ _).mono ?_; rintro _ _ ⟨rfl, B⟩; replace BB := bon BB B))
    all_goals go_ret
    all_goals exact ⟨ret_int (by simp_all [aply] <;> omega), BB⟩

set_option maxRecDepth 100000 in
theorem vop_b (c : Int) (w : World) : Calls Try.prog 17 #[.int .i64 c] w fun e w' => e = .returned (.bool (vop c)) ∧ Below w.heap.size w w' := by
  rcases (show c < 1 ∨ (1 ≤ c ∧ c ≤ 8) ∨ 8 < c by omega) with h | ⟨h, h'⟩ | h
  all_goals
    go_enter Try.func17, Try.ntmps17
    go_wp2
    all_goals go_ret
    all_goals exact ⟨ret_bool (by unfold vop; simp <;> omega), Below.refl _ _⟩

set_option maxRecDepth 100000 in
set_option maxHeartbeats 1000000 in
theorem rapply_b (op v r : Int) (w : World) : Calls Try.prog 12 #[.int .i64 op, .int .i64 v, .int .i64 r] w fun e w' => e = .returned (.int .i64 (aply op v r)) ∧ Below w.heap.size w w' := by
  have BB := Below.refl w.heap.size w
  have h0 : 0 ≤ v % 256 ∧ v % 256 ≤ 255 := by omega
  rcases op_cases op with rfl | rfl | rfl | rfl | rfl | rfl | rfl | ⟨h2, h3, h4, h5, h6, h7, h8⟩
  all_goals
    go_enter Try.func12, Try.ntmps12
    go_wp2_with (first | (go_at_call 22; refine (rreduced_b _ _).mono ?_; rintro _ _ ⟨rfl, B⟩; replace BB := bon BB B))
    all_goals go_ret
    all_goals exact ⟨ret_int (by simp_all [aply] <;> omega), BB⟩

set_option maxRecDepth 100000 in
theorem rvop_b (c : Int) (w : World) : Calls Try.prog 18 #[.int .i64 c] w fun e w' => e = .returned (.bool (vop c)) ∧ Below w.heap.size w w' := by
  rcases (show c < 1 ∨ (1 ≤ c ∧ c ≤ 8) ∨ 8 < c by omega) with h | ⟨h, h'⟩ | h
  all_goals
    go_enter Try.func18, Try.ntmps18
    go_wp2
    all_goals go_ret
    all_goals exact ⟨ret_bool (by unfold vop; simp <;> omega), Below.refl _ _⟩

set_option maxRecDepth 100000 in
theorem oct_b (c : Int) (w : World) : Calls Try.prog 27 #[.int .i64 c] w fun e w' => e = .returned (.bool (oct c)) ∧ Below w.heap.size w w' := by
  rcases (show c < 0 ∨ (0 ≤ c ∧ c ≤ 255) ∨ 255 < c by omega) with h | ⟨h, h'⟩ | h
  all_goals
    go_enter Try.func27, Try.ntmps27
    go_wp2
    all_goals go_ret
    all_goals exact ⟨ret_bool (by unfold oct; simp <;> omega), Below.refl _ _⟩

set_option maxRecDepth 100000 in
theorem roct_b (c : Int) (w : World) : Calls Try.prog 29 #[.int .i64 c] w fun e w' => e = .returned (.bool (oct c)) ∧ Below w.heap.size w w' := by
  rcases (show c < 0 ∨ (0 ≤ c ∧ c ≤ 255) ∨ 255 < c by omega) with h | ⟨h, h'⟩ | h
  all_goals
    go_enter Try.func29, Try.ntmps29
    go_wp2
    all_goals go_ret
    all_goals exact ⟨ret_bool (by unfold oct; simp <;> omega), Below.refl _ _⟩

def vface (f0 f1 f2 f3 : Int) : Bool := vcmp f0 && vop f1 && vop f2 && vop f3

set_option maxRecDepth 100000 in
set_option maxHeartbeats 1000000 in
theorem vface_b (f0 f1 f2 f3 : Int) (w : World) : Calls Try.prog 26 #[.agg #[.int .i64 f0, .int .i64 f1, .int .i64 f2, .int .i64 f3]] w fun e w' => e = .returned (.bool (vface f0 f1 f2 f3)) ∧ Below w.heap.size w w' := by
  obtain ⟨c0, c1, c2, c3, BB⟩ := box4 w (.int .i64 f0) (.int .i64 f1) (.int .i64 f2) (.int .i64 f3) 25
  have C0 := Lib.hid (fun W => vcompare_b f0 W)
  have C1 := Lib.hid (fun W => vop_b f1 W)
  have C2 := Lib.hid (fun W => vop_b f2 W)
  have C3 := Lib.hid (fun W => vop_b f3 W)
  unfold vface
  obtain ⟨v0, h0⟩ : ∃ x, vcmp f0 = x := ⟨_, rfl⟩
  obtain ⟨v1, h1⟩ : ∃ x, vop f1 = x := ⟨_, rfl⟩
  obtain ⟨v2, h2⟩ : ∃ x, vop f2 = x := ⟨_, rfl⟩
  obtain ⟨v3, h3⟩ : ∃ x, vop f3 = x := ⟨_, rfl⟩
  rw [h0] at C0 ⊢
  rw [h1] at C1 ⊢
  rw [h2] at C2 ⊢
  rw [h3] at C3 ⊢
  clear h0 h1 h2 h3
  go_enter Try.func26, Try.ntmps26
  go_wp2_with (first
    | (first | (go_at_call 30; refine (C0.out _).mono ?_; rintro _ _ ⟨rfl, B⟩; replace BB := bon BB B; replace c0 := cell_below B c0; replace c1 := cell_below B c1; replace c2 := cell_below B c2; replace c3 := cell_below B c3))
    | (go_at_call 17; first
        | ((with_reducible refine (C1.out _).mono ?_); rintro _ _ ⟨rfl, B⟩; (replace BB := bon BB B; replace c0 := cell_below B c0; replace c1 := cell_below B c1; replace c2 := cell_below B c2; replace c3 := cell_below B c3))
        | ((with_reducible refine (C2.out _).mono ?_); rintro _ _ ⟨rfl, B⟩; (replace BB := bon BB B; replace c0 := cell_below B c0; replace c1 := cell_below B c1; replace c2 := cell_below B c2; replace c3 := cell_below B c3))
        | ((with_reducible refine (C3.out _).mono ?_); rintro _ _ ⟨rfl, B⟩; (replace BB := bon BB B; replace c0 := cell_below B c0; replace c1 := cell_below B c1; replace c2 := cell_below B c2; replace c3 := cell_below B c3))))
  all_goals go_ret
  all_goals exact ⟨ret_bool (by simp_all), BB⟩

set_option maxRecDepth 100000 in
set_option maxHeartbeats 1000000 in
theorem rvface_b (f0 f1 f2 f3 : Int) (w : World) : Calls Try.prog 28 #[.agg #[.int .i64 f0, .int .i64 f1, .int .i64 f2, .int .i64 f3]] w fun e w' => e = .returned (.bool (vface f0 f1 f2 f3)) ∧ Below w.heap.size w w' := by
  obtain ⟨c0, c1, c2, c3, BB⟩ := box4 w (.int .i64 f0) (.int .i64 f1) (.int .i64 f2) (.int .i64 f3) 25
  have C0 := Lib.hid (fun W => rvcompare_b f0 W)
  have C1 := Lib.hid (fun W => rvop_b f1 W)
  have C2 := Lib.hid (fun W => rvop_b f2 W)
  have C3 := Lib.hid (fun W => rvop_b f3 W)
  unfold vface
  obtain ⟨v0, h0⟩ : ∃ x, vcmp f0 = x := ⟨_, rfl⟩
  obtain ⟨v1, h1⟩ : ∃ x, vop f1 = x := ⟨_, rfl⟩
  obtain ⟨v2, h2⟩ : ∃ x, vop f2 = x := ⟨_, rfl⟩
  obtain ⟨v3, h3⟩ : ∃ x, vop f3 = x := ⟨_, rfl⟩
  rw [h0] at C0 ⊢
  rw [h1] at C1 ⊢
  rw [h2] at C2 ⊢
  rw [h3] at C3 ⊢
  clear h0 h1 h2 h3
  go_enter Try.func28, Try.ntmps28
  go_wp2_with (first
    | (first | (go_at_call 31; refine (C0.out _).mono ?_; rintro _ _ ⟨rfl, B⟩; replace BB := bon BB B; replace c0 := cell_below B c0; replace c1 := cell_below B c1; replace c2 := cell_below B c2; replace c3 := cell_below B c3))
    | (go_at_call 18; first
        | ((with_reducible refine (C1.out _).mono ?_); rintro _ _ ⟨rfl, B⟩; (replace BB := bon BB B; replace c0 := cell_below B c0; replace c1 := cell_below B c1; replace c2 := cell_below B c2; replace c3 := cell_below B c3))
        | ((with_reducible refine (C2.out _).mono ?_); rintro _ _ ⟨rfl, B⟩; (replace BB := bon BB B; replace c0 := cell_below B c0; replace c1 := cell_below B c1; replace c2 := cell_below B c2; replace c3 := cell_below B c3))
        | ((with_reducible refine (C3.out _).mono ?_); rintro _ _ ⟨rfl, B⟩; (replace BB := bon BB B; replace c0 := cell_below B c0; replace c1 := cell_below B c1; replace c2 := cell_below B c2; replace c3 := cell_below B c3))))
  all_goals go_ret
  all_goals exact ⟨ret_bool (by simp_all), BB⟩

def vstate (f0 f1 f2 f3 g0 g1 g2 g3 r rm wm : Int) : Bool := vface f0 f1 f2 f3 && vface g0 g1 g2 g3 && oct r && oct rm && oct wm

set_option maxRecDepth 100000 in
set_option maxHeartbeats 1000000 in
theorem vstate_b (t : Bool) (f0 f1 f2 f3 g0 g1 g2 g3 r rm wm : Int) (w : World) : Calls Try.prog 19 #[.agg #[.bool t, .int .i64 f0, .int .i64 f1, .int .i64 f2, .int .i64 f3, .int .i64 g0, .int .i64 g1, .int .i64 g2, .int .i64 g3, .int .i64 r, .int .i64 rm, .int .i64 wm]] w fun e w' => e = .returned (.bool (vstate f0 f1 f2 f3 g0 g1 g2 g3 r rm wm)) ∧ Below w.heap.size w w' := by
  have X0 := EBox.made w #[.bool t, .int .i64 f0, .int .i64 f1, .int .i64 f2, .int .i64 f3, .int .i64 g0, .int .i64 g1, .int .i64 g2, .int .i64 g3, .int .i64 r, .int .i64 rm, .int .i64 wm] 27
  have BB := box_below w #[.bool t, .int .i64 f0, .int .i64 f1, .int .i64 f2, .int .i64 f3, .int .i64 g0, .int .i64 g1, .int .i64 g2, .int .i64 g3, .int .i64 r, .int .i64 rm, .int .i64 wm] 27
  have c9 := X0.cell (i := 9) rfl
  have c10 := X0.cell (i := 10) rfl
  have c11 := X0.cell (i := 11) rfl
  have Esf_0 : (w.alloc (.cells #[.bool t, .int .i64 f0, .int .i64 f1, .int .i64 f2, .int .i64 f3, .int .i64 g0, .int .i64 g1, .int .i64 g2, .int .i64 g3, .int .i64 r, .int .i64 rm, .int .i64 wm] 27)).rangeAt w.heap.size 1 [.int .i64 f0, .int .i64 f1, .int .i64 f2, .int .i64 f3] := range_cut X0.1 1 4
  have Esf_1 : (w.alloc (.cells #[.bool t, .int .i64 f0, .int .i64 f1, .int .i64 f2, .int .i64 f3, .int .i64 g0, .int .i64 g1, .int .i64 g2, .int .i64 g3, .int .i64 r, .int .i64 rm, .int .i64 wm] 27)).rangeAt w.heap.size 5 [.int .i64 g0, .int .i64 g1, .int .i64 g2, .int .i64 g3] := range_cut X0.1 5 4
  clear X0
  have C0 := Lib.hid (fun W => vface_b f0 f1 f2 f3 W)
  have C1 := Lib.hid (fun W => vface_b g0 g1 g2 g3 W)
  have C2 := Lib.hid (fun W => oct_b r W)
  have C3 := Lib.hid (fun W => oct_b rm W)
  have C4 := Lib.hid (fun W => oct_b wm W)
  unfold vstate
  obtain ⟨v0, h0⟩ : ∃ x, vface f0 f1 f2 f3 = x := ⟨_, rfl⟩
  obtain ⟨v1, h1⟩ : ∃ x, vface g0 g1 g2 g3 = x := ⟨_, rfl⟩
  obtain ⟨v2, h2⟩ : ∃ x, oct r = x := ⟨_, rfl⟩
  obtain ⟨v3, h3⟩ : ∃ x, oct rm = x := ⟨_, rfl⟩
  obtain ⟨v4, h4⟩ : ∃ x, oct wm = x := ⟨_, rfl⟩
  rw [h0] at C0 ⊢
  rw [h1] at C1 ⊢
  rw [h2] at C2 ⊢
  rw [h3] at C3 ⊢
  rw [h4] at C4 ⊢
  clear h0 h1 h2 h3 h4
  go_enter Try.func19, Try.ntmps19
  go_wp2_with (first
    | ((with_reducible refine eload4L rk_sf Esf_0 ?_ ?_); focus rfl)
    | ((with_reducible refine eload4L rk_sf Esf_1 ?_ ?_); focus rfl)
    | (refine wpList_ungd rfl ?_; first | ((with_reducible refine eload4L rk_sf Esf_0 ?_ ?_); focus rfl) | ((with_reducible refine eload4L rk_sf Esf_1 ?_ ?_); focus rfl))
    | (go_at_call 26; first
        | ((with_reducible refine (C0.out _).mono ?_); rintro _ _ ⟨rfl, B⟩; (replace BB := bon BB B; replace c9 := cell_below B c9; replace c10 := cell_below B c10; replace c11 := cell_below B c11; replace Esf_0 := rangeAt_on Esf_0 B; replace Esf_1 := rangeAt_on Esf_1 B))
        | ((with_reducible refine (C1.out _).mono ?_); rintro _ _ ⟨rfl, B⟩; (replace BB := bon BB B; replace c9 := cell_below B c9; replace c10 := cell_below B c10; replace c11 := cell_below B c11; replace Esf_0 := rangeAt_on Esf_0 B; replace Esf_1 := rangeAt_on Esf_1 B)))
    | (go_at_call 27; first
        | ((with_reducible refine (C2.out _).mono ?_); rintro _ _ ⟨rfl, B⟩; (replace BB := bon BB B; replace c9 := cell_below B c9; replace c10 := cell_below B c10; replace c11 := cell_below B c11; replace Esf_0 := rangeAt_on Esf_0 B; replace Esf_1 := rangeAt_on Esf_1 B))
        | ((with_reducible refine (C3.out _).mono ?_); rintro _ _ ⟨rfl, B⟩; (replace BB := bon BB B; replace c9 := cell_below B c9; replace c10 := cell_below B c10; replace c11 := cell_below B c11; replace Esf_0 := rangeAt_on Esf_0 B; replace Esf_1 := rangeAt_on Esf_1 B))
        | ((with_reducible refine (C4.out _).mono ?_); rintro _ _ ⟨rfl, B⟩; (replace BB := bon BB B; replace c9 := cell_below B c9; replace c10 := cell_below B c10; replace c11 := cell_below B c11; replace Esf_0 := rangeAt_on Esf_0 B; replace Esf_1 := rangeAt_on Esf_1 B))))
  all_goals go_ret
  all_goals exact ⟨ret_bool (by simp_all), BB⟩

set_option maxRecDepth 100000 in
set_option maxHeartbeats 1000000 in
theorem rvstate_b (t : Bool) (f0 f1 f2 f3 g0 g1 g2 g3 r rm wm : Int) (w : World) : Calls Try.prog 20 #[.agg #[.bool t, .int .i64 f0, .int .i64 f1, .int .i64 f2, .int .i64 f3, .int .i64 g0, .int .i64 g1, .int .i64 g2, .int .i64 g3, .int .i64 r, .int .i64 rm, .int .i64 wm]] w fun e w' => e = .returned (.bool (vstate f0 f1 f2 f3 g0 g1 g2 g3 r rm wm)) ∧ Below w.heap.size w w' := by
  have X0 := EBox.made w #[.bool t, .int .i64 f0, .int .i64 f1, .int .i64 f2, .int .i64 f3, .int .i64 g0, .int .i64 g1, .int .i64 g2, .int .i64 g3, .int .i64 r, .int .i64 rm, .int .i64 wm] 27
  have BB := box_below w #[.bool t, .int .i64 f0, .int .i64 f1, .int .i64 f2, .int .i64 f3, .int .i64 g0, .int .i64 g1, .int .i64 g2, .int .i64 g3, .int .i64 r, .int .i64 rm, .int .i64 wm] 27
  have c9 := X0.cell (i := 9) rfl
  have c10 := X0.cell (i := 10) rfl
  have c11 := X0.cell (i := 11) rfl
  have Esf_0 : (w.alloc (.cells #[.bool t, .int .i64 f0, .int .i64 f1, .int .i64 f2, .int .i64 f3, .int .i64 g0, .int .i64 g1, .int .i64 g2, .int .i64 g3, .int .i64 r, .int .i64 rm, .int .i64 wm] 27)).rangeAt w.heap.size 1 [.int .i64 f0, .int .i64 f1, .int .i64 f2, .int .i64 f3] := range_cut X0.1 1 4
  have Esf_1 : (w.alloc (.cells #[.bool t, .int .i64 f0, .int .i64 f1, .int .i64 f2, .int .i64 f3, .int .i64 g0, .int .i64 g1, .int .i64 g2, .int .i64 g3, .int .i64 r, .int .i64 rm, .int .i64 wm] 27)).rangeAt w.heap.size 5 [.int .i64 g0, .int .i64 g1, .int .i64 g2, .int .i64 g3] := range_cut X0.1 5 4
  clear X0
  have C0 := Lib.hid (fun W => rvface_b f0 f1 f2 f3 W)
  have C1 := Lib.hid (fun W => rvface_b g0 g1 g2 g3 W)
  have C2 := Lib.hid (fun W => roct_b r W)
  have C3 := Lib.hid (fun W => roct_b rm W)
  have C4 := Lib.hid (fun W => roct_b wm W)
  unfold vstate
  obtain ⟨v0, h0⟩ : ∃ x, vface f0 f1 f2 f3 = x := ⟨_, rfl⟩
  obtain ⟨v1, h1⟩ : ∃ x, vface g0 g1 g2 g3 = x := ⟨_, rfl⟩
  obtain ⟨v2, h2⟩ : ∃ x, oct r = x := ⟨_, rfl⟩
  obtain ⟨v3, h3⟩ : ∃ x, oct rm = x := ⟨_, rfl⟩
  obtain ⟨v4, h4⟩ : ∃ x, oct wm = x := ⟨_, rfl⟩
  rw [h0] at C0 ⊢
  rw [h1] at C1 ⊢
  rw [h2] at C2 ⊢
  rw [h3] at C3 ⊢
  rw [h4] at C4 ⊢
  clear h0 h1 h2 h3 h4
  go_enter Try.func20, Try.ntmps20
  go_wp2_with (first
    | ((with_reducible refine eload4L rk_sf Esf_0 ?_ ?_); focus rfl)
    | ((with_reducible refine eload4L rk_sf Esf_1 ?_ ?_); focus rfl)
    | (refine wpList_ungd rfl ?_; first | ((with_reducible refine eload4L rk_sf Esf_0 ?_ ?_); focus rfl) | ((with_reducible refine eload4L rk_sf Esf_1 ?_ ?_); focus rfl))
    | (go_at_call 28; first
        | ((with_reducible refine (C0.out _).mono ?_); rintro _ _ ⟨rfl, B⟩; (replace BB := bon BB B; replace c9 := cell_below B c9; replace c10 := cell_below B c10; replace c11 := cell_below B c11; replace Esf_0 := rangeAt_on Esf_0 B; replace Esf_1 := rangeAt_on Esf_1 B))
        | ((with_reducible refine (C1.out _).mono ?_); rintro _ _ ⟨rfl, B⟩; (replace BB := bon BB B; replace c9 := cell_below B c9; replace c10 := cell_below B c10; replace c11 := cell_below B c11; replace Esf_0 := rangeAt_on Esf_0 B; replace Esf_1 := rangeAt_on Esf_1 B)))
    | (go_at_call 29; first
        | ((with_reducible refine (C2.out _).mono ?_); rintro _ _ ⟨rfl, B⟩; (replace BB := bon BB B; replace c9 := cell_below B c9; replace c10 := cell_below B c10; replace c11 := cell_below B c11; replace Esf_0 := rangeAt_on Esf_0 B; replace Esf_1 := rangeAt_on Esf_1 B))
        | ((with_reducible refine (C3.out _).mono ?_); rintro _ _ ⟨rfl, B⟩; (replace BB := bon BB B; replace c9 := cell_below B c9; replace c10 := cell_below B c10; replace c11 := cell_below B c11; replace Esf_0 := rangeAt_on Esf_0 B; replace Esf_1 := rangeAt_on Esf_1 B))
        | ((with_reducible refine (C4.out _).mono ?_); rintro _ _ ⟨rfl, B⟩; (replace BB := bon BB B; replace c9 := cell_below B c9; replace c10 := cell_below B c10; replace c11 := cell_below B c11; replace Esf_0 := rangeAt_on Esf_0 B; replace Esf_1 := rangeAt_on Esf_1 B))))
  all_goals go_ret
  all_goals exact ⟨ret_bool (by simp_all), BB⟩

set_option maxRecDepth 100000 in
set_option maxHeartbeats 1000000 in
theorem face_b (t : Bool) (f0 f1 f2 f3 g0 g1 g2 g3 r rm wm : Int) (fr : Bool) (w : World) : Calls Try.prog 16 #[.agg #[.bool t, .int .i64 f0, .int .i64 f1, .int .i64 f2, .int .i64 f3, .int .i64 g0, .int .i64 g1, .int .i64 g2, .int .i64 g3, .int .i64 r, .int .i64 rm, .int .i64 wm], .bool fr] w fun e w' => e = .returned (.agg (if fr = true then #[.int .i64 f0, .int .i64 f1, .int .i64 f2, .int .i64 f3] else #[.int .i64 g0, .int .i64 g1, .int .i64 g2, .int .i64 g3])) ∧ Below w.heap.size w w' := by
  have X0 := EBox.made w #[.bool t, .int .i64 f0, .int .i64 f1, .int .i64 f2, .int .i64 f3, .int .i64 g0, .int .i64 g1, .int .i64 g2, .int .i64 g3, .int .i64 r, .int .i64 rm, .int .i64 wm] 27
  have b0 := box_below w #[.bool t, .int .i64 f0, .int .i64 f1, .int .i64 f2, .int .i64 f3, .int .i64 g0, .int .i64 g1, .int .i64 g2, .int .i64 g3, .int .i64 r, .int .i64 rm, .int .i64 wm] 27
  have b1 := box_below (w.alloc (.cells #[.bool t, .int .i64 f0, .int .i64 f1, .int .i64 f2, .int .i64 f3, .int .i64 g0, .int .i64 g1, .int .i64 g2, .int .i64 g3, .int .i64 r, .int .i64 rm, .int .i64 wm] 27)) #[.int .i64 0, .int .i64 0, .int .i64 0, .int .i64 0] 25
  have X1 := X0.on (Nat.succ_pos _) b1
  have r0 := range_cut X1.1 1 4
  have r1 := range_cut X1.1 5 4
  simp only [List.drop_succ_cons, List.drop_zero, List.take_succ_cons, List.take_zero, Nat.zero_add] at r0 r1
  clear X0 b1 X1
  cases fr
  all_goals
    simp only [if_true, Bool.false_eq_true, if_false]
    go_enter Try.func16, Try.ntmps16
    go_wp2_with (first
      | ((with_reducible refine eload4L rk_sf r0 ?_ ?_); focus rfl)
      | ((with_reducible refine eload4L rk_sf r1 ?_ ?_); focus rfl)
      | ((with_reducible refine estore4L rk_sf ?_ ?_ ?_ ?_); focus rfl; focus rfl; focus rfl))
    exact bodyPost_ret (by simp [results, Try.results16, go_sem]) rfl ⟨rfl, bon b0 (box_below _ _ _)⟩

set_option maxRecDepth 100000 in
set_option maxHeartbeats 1000000 in
theorem rface_b (t : Bool) (f0 f1 f2 f3 g0 g1 g2 g3 r rm wm : Int) (fr : Bool) (w : World) : Calls Try.prog 25 #[.agg #[.bool t, .int .i64 f0, .int .i64 f1, .int .i64 f2, .int .i64 f3, .int .i64 g0, .int .i64 g1, .int .i64 g2, .int .i64 g3, .int .i64 r, .int .i64 rm, .int .i64 wm], .bool fr] w fun e w' => e = .returned (.agg (if fr = true then #[.int .i64 f0, .int .i64 f1, .int .i64 f2, .int .i64 f3] else #[.int .i64 g0, .int .i64 g1, .int .i64 g2, .int .i64 g3])) ∧ Below w.heap.size w w' := by
  have X0 := EBox.made w #[.bool t, .int .i64 f0, .int .i64 f1, .int .i64 f2, .int .i64 f3, .int .i64 g0, .int .i64 g1, .int .i64 g2, .int .i64 g3, .int .i64 r, .int .i64 rm, .int .i64 wm] 27
  have b0 := box_below w #[.bool t, .int .i64 f0, .int .i64 f1, .int .i64 f2, .int .i64 f3, .int .i64 g0, .int .i64 g1, .int .i64 g2, .int .i64 g3, .int .i64 r, .int .i64 rm, .int .i64 wm] 27
  have b1 := box_below (w.alloc (.cells #[.bool t, .int .i64 f0, .int .i64 f1, .int .i64 f2, .int .i64 f3, .int .i64 g0, .int .i64 g1, .int .i64 g2, .int .i64 g3, .int .i64 r, .int .i64 rm, .int .i64 wm] 27)) #[.int .i64 0, .int .i64 0, .int .i64 0, .int .i64 0] 25
  have X1 := X0.on (Nat.succ_pos _) b1
  have r0 := range_cut X1.1 1 4
  have r1 := range_cut X1.1 5 4
  simp only [List.drop_succ_cons, List.drop_zero, List.take_succ_cons, List.take_zero, Nat.zero_add] at r0 r1
  clear X0 b1 X1
  cases fr
  all_goals
    simp only [if_true, Bool.false_eq_true, if_false]
    go_enter Try.func25, Try.ntmps25
    go_wp2_with (first
      | ((with_reducible refine eload4L rk_sf r0 ?_ ?_); focus rfl)
      | ((with_reducible refine eload4L rk_sf r1 ?_ ?_); focus rfl)
      | ((with_reducible refine estore4L rk_sf ?_ ?_ ?_ ?_); focus rfl; focus rfl; focus rfl))
    exact bodyPost_ret (by simp [results, Try.results25, go_sem]) rfl ⟨rfl, bon b0 (box_below _ _ _)⟩

end Go.Proofs.Ytigjamfnekaeeaa
