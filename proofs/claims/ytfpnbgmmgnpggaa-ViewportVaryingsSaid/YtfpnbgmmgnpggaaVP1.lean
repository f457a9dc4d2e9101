/- What the functions of package viewport and of the reference return, of numbers. -/
import Derived.Test.YtfpnbgmmgnpggaaVPMath
import Derived.Test.YtfpnbgmmgnpggaaFixedB
import Derived.Test.YtfpnbgmmgnpggaaRowN
import Derived.Test.YtfpnbgmmgnpggaaTail
namespace Go.Proofs.Ytfpnbgmmgnpggaa
set_option linter.unusedSimpArgs false
open Go.RowKit Go.Sort Go.ChangeShapes Go.WideShapes
set_option linter.unusedVariables false

theorem rk_vp : RowK Try.prog 23 6 := ⟨⟨_, Try.underlying23, rfl⟩, by kernel_rfl⟩

set_option maxRecDepth 100000 in
theorem side_b (low size : Int) (w : World) : Calls Try.prog 25 #[.int .i64 low, .int .i64 size] w fun e w' => e = .returned (.bool (side low size)) ∧ Below w.heap.size w w' := by
  unfold side
  rcases Int.lt_or_le low 0 with h1 | h1
  · go_enter Try.func25, Try.ntmps25
    go_wp2
    all_goals go_ret
    all_goals exact ⟨ret_bool (by first | rfl | (simp; done) | (simp; omega) | (simp_all; done) | (simp_all; omega)), Below.refl _ _⟩
  rcases Int.lt_or_le size 1 with h2 | h2
  · go_enter Try.func25, Try.ntmps25
    go_wp2
    all_goals go_ret
    all_goals exact ⟨ret_bool (by first | rfl | (simp; done) | (simp; omega) | (simp_all; done) | (simp_all; omega)), Below.refl _ _⟩
  rcases Int.lt_or_le 64 size with h3 | h3
  · go_enter Try.func25, Try.ntmps25
    go_wp2
    all_goals go_ret
    all_goals exact ⟨ret_bool (by first | rfl | (simp; done) | (simp; omega) | (simp_all; done) | (simp_all; omega)), Below.refl _ _⟩
  go_enter Try.func25, Try.ntmps25
  go_wp2
  all_goals go_ret
  all_goals exact ⟨ret_bool (by first | rfl | (simp; done) | (simp; omega) | (simp_all; done) | (simp_all; omega)), Below.refl _ _⟩

def wth (n lo hi : Int) : Bool := decide (lo ≤ n) && decide (n ≤ hi)

set_option maxRecDepth 100000 in
theorem within_b (n lo hi : Int) (w : World) : Calls Try.prog 26 #[.int .i64 n, .int .i64 lo, .int .i64 hi] w fun e w' => e = .returned (.bool (wth n lo hi)) ∧ Below w.heap.size w w' := by
  unfold wth
  rcases Int.lt_or_le n lo with h1 | h1
  all_goals
    go_enter Try.func26, Try.ntmps26
    go_wp2
    all_goals go_ret
    all_goals exact ⟨ret_bool (by first | rfl | (simp; done) | (simp; omega) | (simp_all; done) | (simp_all; omega)), Below.refl _ _⟩

set_option maxRecDepth 100000 in
set_option maxHeartbeats 1000000 in
theorem vvalid_b (x y ww hh mn mx : Int) (w : World) : Calls Try.prog 11 #[.agg #[.int .i64 x, .int .i64 y, .int .i64 ww, .int .i64 hh, .int .i64 mn, .int .i64 mx]] w fun e w' => e = .returned (.bool (vvalid x y ww hh mn mx)) ∧ Below w.heap.size w w' := by
  have BB := box_below w #[.int .i64 x, .int .i64 y, .int .i64 ww, .int .i64 hh, .int .i64 mn, .int .i64 mx] 23
  have X0 := EBox.made w #[.int .i64 x, .int .i64 y, .int .i64 ww, .int .i64 hh, .int .i64 mn, .int .i64 mx] 23
  have c0 := X0.cell (i := 0) rfl
  have c1 := X0.cell (i := 1) rfl
  have c2 := X0.cell (i := 2) rfl
  have c3 := X0.cell (i := 3) rfl
  have c4 := X0.cell (i := 4) rfl
  have c5 := X0.cell (i := 5) rfl
  have Evp := range_cut X0.1 0 6
  simp only [List.drop_succ_cons, List.drop_zero, List.take_succ_cons, List.take_zero, Nat.zero_add] at Evp
  clear X0
  have CX := Lib.hid (fun W => side_b x ww W)
  have CY := Lib.hid (fun W => side_b y hh W)
  unfold vvalid
  obtain ⟨s1, hs1⟩ : ∃ s, side x ww = s := ⟨_, rfl⟩
  obtain ⟨s2, hs2⟩ : ∃ s, side y hh = s := ⟨_, rfl⟩
  rw [hs1] at CX ⊢
  rw [hs2] at CY ⊢
  clear hs1 hs2 Evp
  cases s1
  · go_enter Try.func11, Try.ntmps11
    go_wp2_with (first | (go_at_call 25; refine (CX.out _).mono ?_; rintro _ _ ⟨rfl, B⟩; replace BB := bon BB B; replace c0 := cell_below B c0; replace c1 := cell_below B c1; replace c2 := cell_below B c2; replace c3 := cell_below B c3; replace c4 := cell_below B c4; replace c5 := cell_below B c5))
    go_ret
    exact ⟨rfl, BB⟩
  cases s2
  · go_enter Try.func11, Try.ntmps11
    go_wp2_with (go_at_call 25; first | ((with_reducible refine (CX.out _).mono ?_); rintro _ _ ⟨rfl, B⟩; (replace BB := bon BB B; replace c0 := cell_below B c0; replace c1 := cell_below B c1; replace c2 := cell_below B c2; replace c3 := cell_below B c3; replace c4 := cell_below B c4; replace c5 := cell_below B c5)) | ((with_reducible refine (CY.out _).mono ?_); rintro _ _ ⟨rfl, B⟩; (replace BB := bon BB B; replace c0 := cell_below B c0; replace c1 := cell_below B c1; replace c2 := cell_below B c2; replace c3 := cell_below B c3; replace c4 := cell_below B c4; replace c5 := cell_below B c5)))
    go_ret
    exact ⟨rfl, BB⟩
  rcases (show mn < 0 ∨ (0 ≤ mn ∧ mx < mn) ∨ (0 ≤ mn ∧ mn ≤ mx) by omega) with h1 | ⟨h1, h2⟩ | ⟨h1, h2⟩
  all_goals
    go_enter Try.func11, Try.ntmps11
    go_wp2_with (go_at_call 25; first | ((with_reducible refine (CX.out _).mono ?_); rintro _ _ ⟨rfl, B⟩; (replace BB := bon BB B; replace c0 := cell_below B c0; replace c1 := cell_below B c1; replace c2 := cell_below B c2; replace c3 := cell_below B c3; replace c4 := cell_below B c4; replace c5 := cell_below B c5)) | ((with_reducible refine (CY.out _).mono ?_); rintro _ _ ⟨rfl, B⟩; (replace BB := bon BB B; replace c0 := cell_below B c0; replace c1 := cell_below B c1; replace c2 := cell_below B c2; replace c3 := cell_below B c3; replace c4 := cell_below B c4; replace c5 := cell_below B c5)))
    all_goals go_ret
    all_goals exact ⟨ret_bool (by first | rfl | (simp; done) | (simp; omega) | (simp_all; done) | (simp_all; omega)), BB⟩

def rvalid32 (x y ww hh mn mx : Int) : Bool := wth x 0 64 && (wth y 0 64 && (wth ww 1 64 && (wth hh 1 64 && (decide (x + ww ≤ 64) && (decide (y + hh ≤ 64) && (decide (0 ≤ mn) && (decide (mn ≤ mx) && decide (mx ≤ 65536))))))))

theorem rvalid32_eq (x y ww hh mn mx : Int) : rvalid32 x y ww hh mn mx = vvalid x y ww hh mn mx := by
  rw [Bool.eq_iff_iff]
  simp [rvalid32, vvalid, side, wth]
  omega

theorem within_at (n lo hi : Int) (v : Bool) (h : wth n lo hi = v) (w : World) : Calls Try.prog 26 #[.int .i64 n, .int .i64 lo, .int .i64 hi] w fun e w' => e = .returned (.bool v) ∧ Below w.heap.size w w' := h ▸ within_b n lo hi w

theorem wth_yes {n lo hi : Int} (h1 : lo ≤ n) (h2 : n ≤ hi) : wth n lo hi = true := by simp [wth, h1, h2]

theorem wth_no {n lo hi : Int} (h : ¬ (lo ≤ n ∧ n ≤ hi)) : wth n lo hi = false := by simp [wth]; omega

set_option maxRecDepth 100000 in
set_option maxHeartbeats 1000000 in
theorem rvalid_0 (x y ww hh mn mx : Int)  (h0 : ¬ (0 ≤ x ∧ x ≤ 64)) (w : World) : Calls Try.prog 12 #[.agg #[.int .i64 x, .int .i64 y, .int .i64 ww, .int .i64 hh, .int .i64 mn, .int .i64 mx]] w fun e w' => e = .returned (.bool (rvalid32 x y ww hh mn mx)) ∧ Below w.heap.size w w' := by
  have BB := box_below w #[.int .i64 x, .int .i64 y, .int .i64 ww, .int .i64 hh, .int .i64 mn, .int .i64 mx] 23
  have X0 := EBox.made w #[.int .i64 x, .int .i64 y, .int .i64 ww, .int .i64 hh, .int .i64 mn, .int .i64 mx] 23
  have c0 := X0.cell (i := 0) rfl
  have c1 := X0.cell (i := 1) rfl
  have c2 := X0.cell (i := 2) rfl
  have c3 := X0.cell (i := 3) rfl
  have c4 := X0.cell (i := 4) rfl
  have c5 := X0.cell (i := 5) rfl
  have Evp := range_cut X0.1 0 6
  simp only [List.drop_succ_cons, List.drop_zero, List.take_succ_cons, List.take_zero, Nat.zero_add] at Evp
  clear X0
  have C0 := Lib.hid (fun W => within_at x 0 64 false (wth_no h0) W)
  clear Evp
  have HV : Hid (rvalid32 x y ww hh mn mx = false) := Lib.hid (by simp [rvalid32, wth_no h0])
  clear h0
  go_enter Try.func12, Try.ntmps12
  go_wp2_with (go_at_call 26; first | ((with_reducible refine (C0.out _).mono ?_); rintro _ _ ⟨rfl, B⟩; (replace BB := bon BB B; replace c0 := cell_below B c0; replace c1 := cell_below B c1; replace c2 := cell_below B c2; replace c3 := cell_below B c3; replace c4 := cell_below B c4; replace c5 := cell_below B c5)))
  go_ret
  exact ⟨ret_bool HV.out.symm, BB⟩

set_option maxRecDepth 100000 in
set_option maxHeartbeats 1000000 in
theorem rvalid_1 (x y ww hh mn mx : Int) (h0 : 0 ≤ x ∧ x ≤ 64) (h1 : ¬ (0 ≤ y ∧ y ≤ 64)) (w : World) : Calls Try.prog 12 #[.agg #[.int .i64 x, .int .i64 y, .int .i64 ww, .int .i64 hh, .int .i64 mn, .int .i64 mx]] w fun e w' => e = .returned (.bool (rvalid32 x y ww hh mn mx)) ∧ Below w.heap.size w w' := by
  have BB := box_below w #[.int .i64 x, .int .i64 y, .int .i64 ww, .int .i64 hh, .int .i64 mn, .int .i64 mx] 23
  have X0 := EBox.made w #[.int .i64 x, .int .i64 y, .int .i64 ww, .int .i64 hh, .int .i64 mn, .int .i64 mx] 23
  have c0 := X0.cell (i := 0) rfl
  have c1 := X0.cell (i := 1) rfl
  have c2 := X0.cell (i := 2) rfl
  have c3 := X0.cell (i := 3) rfl
  have c4 := X0.cell (i := 4) rfl
  have c5 := X0.cell (i := 5) rfl
  have Evp := range_cut X0.1 0 6
  simp only [List.drop_succ_cons, List.drop_zero, List.take_succ_cons, List.take_zero, Nat.zero_add] at Evp
  clear X0
  have C0 := Lib.hid (fun W => within_at x 0 64 true (wth_yes h0.1 h0.2) W)
  have C1 := Lib.hid (fun W => within_at y 0 64 false (wth_no h1) W)
  clear Evp
  have HV : Hid (rvalid32 x y ww hh mn mx = false) := Lib.hid (by simp [rvalid32, wth_no h1])
  clear h0 h1
  go_enter Try.func12, Try.ntmps12
  go_wp2_with (go_at_call 26; first | ((with_reducible refine (C0.out _).mono ?_); rintro _ _ ⟨rfl, B⟩; (replace BB := bon BB B; replace c0 := cell_below B c0; replace c1 := cell_below B c1; replace c2 := cell_below B c2; replace c3 := cell_below B c3; replace c4 := cell_below B c4; replace c5 := cell_below B c5)) | ((with_reducible refine (C1.out _).mono ?_); rintro _ _ ⟨rfl, B⟩; (replace BB := bon BB B; replace c0 := cell_below B c0; replace c1 := cell_below B c1; replace c2 := cell_below B c2; replace c3 := cell_below B c3; replace c4 := cell_below B c4; replace c5 := cell_below B c5)))
  go_ret
  exact ⟨ret_bool HV.out.symm, BB⟩

set_option maxRecDepth 100000 in
set_option maxHeartbeats 1000000 in
theorem rvalid_2 (x y ww hh mn mx : Int) (h0 : 0 ≤ x ∧ x ≤ 64) (h1 : 0 ≤ y ∧ y ≤ 64) (h2 : ¬ (1 ≤ ww ∧ ww ≤ 64)) (w : World) : Calls Try.prog 12 #[.agg #[.int .i64 x, .int .i64 y, .int .i64 ww, .int .i64 hh, .int .i64 mn, .int .i64 mx]] w fun e w' => e = .returned (.bool (rvalid32 x y ww hh mn mx)) ∧ Below w.heap.size w w' := by
  have BB := box_below w #[.int .i64 x, .int .i64 y, .int .i64 ww, .int .i64 hh, .int .i64 mn, .int .i64 mx] 23
  have X0 := EBox.made w #[.int .i64 x, .int .i64 y, .int .i64 ww, .int .i64 hh, .int .i64 mn, .int .i64 mx] 23
  have c0 := X0.cell (i := 0) rfl
  have c1 := X0.cell (i := 1) rfl
  have c2 := X0.cell (i := 2) rfl
  have c3 := X0.cell (i := 3) rfl
  have c4 := X0.cell (i := 4) rfl
  have c5 := X0.cell (i := 5) rfl
  have Evp := range_cut X0.1 0 6
  simp only [List.drop_succ_cons, List.drop_zero, List.take_succ_cons, List.take_zero, Nat.zero_add] at Evp
  clear X0
  have C0 := Lib.hid (fun W => within_at x 0 64 true (wth_yes h0.1 h0.2) W)
  have C1 := Lib.hid (fun W => within_at y 0 64 true (wth_yes h1.1 h1.2) W)
  have C2 := Lib.hid (fun W => within_at ww 1 64 false (wth_no h2) W)
  clear Evp
  have HV : Hid (rvalid32 x y ww hh mn mx = false) := Lib.hid (by simp [rvalid32, wth_no h2])
  clear h0 h1 h2
  go_enter Try.func12, Try.ntmps12
  go_wp2_with (go_at_call 26; first | ((with_reducible refine (C0.out _).mono ?_); rintro _ _ ⟨rfl, B⟩; (replace BB := bon BB B; replace c0 := cell_below B c0; replace c1 := cell_below B c1; replace c2 := cell_below B c2; replace c3 := cell_below B c3; replace c4 := cell_below B c4; replace c5 := cell_below B c5)) | ((with_reducible refine (C1.out _).mono ?_); rintro _ _ ⟨rfl, B⟩; (replace BB := bon BB B; replace c0 := cell_below B c0; replace c1 := cell_below B c1; replace c2 := cell_below B c2; replace c3 := cell_below B c3; replace c4 := cell_below B c4; replace c5 := cell_below B c5)) | ((with_reducible refine (C2.out _).mono ?_); rintro _ _ ⟨rfl, B⟩; (replace BB := bon BB B; replace c0 := cell_below B c0; replace c1 := cell_below B c1; replace c2 := cell_below B c2; replace c3 := cell_below B c3; replace c4 := cell_below B c4; replace c5 := cell_below B c5)))
  go_ret
  exact ⟨ret_bool HV.out.symm, BB⟩

set_option maxRecDepth 100000 in
set_option maxHeartbeats 1000000 in
theorem rvalid_3 (x y ww hh mn mx : Int) (h0 : 0 ≤ x ∧ x ≤ 64) (h1 : 0 ≤ y ∧ y ≤ 64) (h2 : 1 ≤ ww ∧ ww ≤ 64) (h3 : ¬ (1 ≤ hh ∧ hh ≤ 64)) (w : World) : Calls Try.prog 12 #[.agg #[.int .i64 x, .int .i64 y, .int .i64 ww, .int .i64 hh, .int .i64 mn, .int .i64 mx]] w fun e w' => e = .returned (.bool (rvalid32 x y ww hh mn mx)) ∧ Below w.heap.size w w' := by
  have BB := box_below w #[.int .i64 x, .int .i64 y, .int .i64 ww, .int .i64 hh, .int .i64 mn, .int .i64 mx] 23
  have X0 := EBox.made w #[.int .i64 x, .int .i64 y, .int .i64 ww, .int .i64 hh, .int .i64 mn, .int .i64 mx] 23
  have c0 := X0.cell (i := 0) rfl
  have c1 := X0.cell (i := 1) rfl
  have c2 := X0.cell (i := 2) rfl
  have c3 := X0.cell (i := 3) rfl
  have c4 := X0.cell (i := 4) rfl
  have c5 := X0.cell (i := 5) rfl
  have Evp := range_cut X0.1 0 6
  simp only [List.drop_succ_cons, List.drop_zero, List.take_succ_cons, List.take_zero, Nat.zero_add] at Evp
  clear X0
  have C0 := Lib.hid (fun W => within_at x 0 64 true (wth_yes h0.1 h0.2) W)
  have C1 := Lib.hid (fun W => within_at y 0 64 true (wth_yes h1.1 h1.2) W)
  have C2 := Lib.hid (fun W => within_at ww 1 64 true (wth_yes h2.1 h2.2) W)
  have C3 := Lib.hid (fun W => within_at hh 1 64 false (wth_no h3) W)
  clear Evp
  have HV : Hid (rvalid32 x y ww hh mn mx = false) := Lib.hid (by simp [rvalid32, wth_no h3])
  clear h0 h1 h2 h3
  go_enter Try.func12, Try.ntmps12
  go_wp2_with (go_at_call 26; first | ((with_reducible refine (C0.out _).mono ?_); rintro _ _ ⟨rfl, B⟩; (replace BB := bon BB B; replace c0 := cell_below B c0; replace c1 := cell_below B c1; replace c2 := cell_below B c2; replace c3 := cell_below B c3; replace c4 := cell_below B c4; replace c5 := cell_below B c5)) | ((with_reducible refine (C1.out _).mono ?_); rintro _ _ ⟨rfl, B⟩; (replace BB := bon BB B; replace c0 := cell_below B c0; replace c1 := cell_below B c1; replace c2 := cell_below B c2; replace c3 := cell_below B c3; replace c4 := cell_below B c4; replace c5 := cell_below B c5)) | ((with_reducible refine (C2.out _).mono ?_); rintro _ _ ⟨rfl, B⟩; (replace BB := bon BB B; replace c0 := cell_below B c0; replace c1 := cell_below B c1; replace c2 := cell_below B c2; replace c3 := cell_below B c3; replace c4 := cell_below B c4; replace c5 := cell_below B c5)) | ((with_reducible refine (C3.out _).mono ?_); rintro _ _ ⟨rfl, B⟩; (replace BB := bon BB B; replace c0 := cell_below B c0; replace c1 := cell_below B c1; replace c2 := cell_below B c2; replace c3 := cell_below B c3; replace c4 := cell_below B c4; replace c5 := cell_below B c5)))
  go_ret
  exact ⟨ret_bool HV.out.symm, BB⟩

set_option maxRecDepth 100000 in
set_option maxHeartbeats 1000000 in
theorem rvalid_4 (x y ww hh mn mx : Int) (h0 : 0 ≤ x ∧ x ≤ 64) (h1 : 0 ≤ y ∧ y ≤ 64) (h2 : 1 ≤ ww ∧ ww ≤ 64) (h3 : 1 ≤ hh ∧ hh ≤ 64) (w : World) : Calls Try.prog 12 #[.agg #[.int .i64 x, .int .i64 y, .int .i64 ww, .int .i64 hh, .int .i64 mn, .int .i64 mx]] w fun e w' => e = .returned (.bool (rvalid32 x y ww hh mn mx)) ∧ Below w.heap.size w w' := by
  have BB := box_below w #[.int .i64 x, .int .i64 y, .int .i64 ww, .int .i64 hh, .int .i64 mn, .int .i64 mx] 23
  have X0 := EBox.made w #[.int .i64 x, .int .i64 y, .int .i64 ww, .int .i64 hh, .int .i64 mn, .int .i64 mx] 23
  have c0 := X0.cell (i := 0) rfl
  have c1 := X0.cell (i := 1) rfl
  have c2 := X0.cell (i := 2) rfl
  have c3 := X0.cell (i := 3) rfl
  have c4 := X0.cell (i := 4) rfl
  have c5 := X0.cell (i := 5) rfl
  have Evp := range_cut X0.1 0 6
  simp only [List.drop_succ_cons, List.drop_zero, List.take_succ_cons, List.take_zero, Nat.zero_add] at Evp
  clear X0
  have C0 := Lib.hid (fun W => within_at x 0 64 true (wth_yes h0.1 h0.2) W)
  have C1 := Lib.hid (fun W => within_at y 0 64 true (wth_yes h1.1 h1.2) W)
  have C2 := Lib.hid (fun W => within_at ww 1 64 true (wth_yes h2.1 h2.2) W)
  have C3 := Lib.hid (fun W => within_at hh 1 64 true (wth_yes h3.1 h3.2) W)
  clear Evp
  rcases (show 64 < x + ww ∨ (x + ww ≤ 64 ∧ 64 < y + hh) ∨ (x + ww ≤ 64 ∧ y + hh ≤ 64 ∧ mn < 0) ∨ (x + ww ≤ 64 ∧ y + hh ≤ 64 ∧ 0 ≤ mn ∧ mx < mn) ∨ (x + ww ≤ 64 ∧ y + hh ≤ 64 ∧ 0 ≤ mn ∧ mn ≤ mx) by omega) with q1 | ⟨q1, q2⟩ | ⟨q1, q2, q3⟩ | ⟨q1, q2, q3, q4⟩ | ⟨q1, q2, q3, q4⟩
  all_goals
    have HV : Hid (rvalid32 x y ww hh mn mx = (decide (x + ww ≤ 64) && (decide (y + hh ≤ 64) && (decide (0 ≤ mn) && (decide (mn ≤ mx) && decide (mx ≤ 65536)))))) := Lib.hid (by simp [rvalid32, wth_yes h0.1 h0.2, wth_yes h1.1 h1.2, wth_yes h2.1 h2.2, wth_yes h3.1 h3.2])
    go_enter Try.func12, Try.ntmps12
    go_wp2_with (go_at_call 26; first | ((with_reducible refine (C0.out _).mono ?_); rintro _ _ ⟨rfl, B⟩; (replace BB := bon BB B; replace c0 := cell_below B c0; replace c1 := cell_below B c1; replace c2 := cell_below B c2; replace c3 := cell_below B c3; replace c4 := cell_below B c4; replace c5 := cell_below B c5)) | ((with_reducible refine (C1.out _).mono ?_); rintro _ _ ⟨rfl, B⟩; (replace BB := bon BB B; replace c0 := cell_below B c0; replace c1 := cell_below B c1; replace c2 := cell_below B c2; replace c3 := cell_below B c3; replace c4 := cell_below B c4; replace c5 := cell_below B c5)) | ((with_reducible refine (C2.out _).mono ?_); rintro _ _ ⟨rfl, B⟩; (replace BB := bon BB B; replace c0 := cell_below B c0; replace c1 := cell_below B c1; replace c2 := cell_below B c2; replace c3 := cell_below B c3; replace c4 := cell_below B c4; replace c5 := cell_below B c5)) | ((with_reducible refine (C3.out _).mono ?_); rintro _ _ ⟨rfl, B⟩; (replace BB := bon BB B; replace c0 := cell_below B c0; replace c1 := cell_below B c1; replace c2 := cell_below B c2; replace c3 := cell_below B c3; replace c4 := cell_below B c4; replace c5 := cell_below B c5)))
    all_goals go_ret
    all_goals exact ⟨ret_bool (by rw [HV.out]; first | rfl | (simp; done) | (simp; omega) | (simp_all; done) | (simp_all; omega)), BB⟩

theorem rvvalid_b (x y ww hh mn mx : Int) (w : World) : Calls Try.prog 12 #[.agg #[.int .i64 x, .int .i64 y, .int .i64 ww, .int .i64 hh, .int .i64 mn, .int .i64 mx]] w fun e w' => e = .returned (.bool (vvalid x y ww hh mn mx)) ∧ Below w.heap.size w w' := by
  rw [← rvalid32_eq]
  by_cases h0 : 0 ≤ x ∧ x ≤ 64
  · by_cases h1 : 0 ≤ y ∧ y ≤ 64
    · by_cases h2 : 1 ≤ ww ∧ ww ≤ 64
      · by_cases h3 : 1 ≤ hh ∧ hh ≤ 64
        · exact rvalid_4 x y ww hh mn mx h0 h1 h2 h3 w
        · exact rvalid_3 x y ww hh mn mx h0 h1 h2 h3 w
      · exact rvalid_2 x y ww hh mn mx h0 h1 h2 w
    · exact rvalid_1 x y ww hh mn mx h0 h1 w
  · exact rvalid_0 x y ww hh mn mx h0 w

set_option maxRecDepth 100000 in
theorem ovw_b (n v : Int) (w : World) : Calls Try.prog 31 #[.int .i64 n, .int .i64 v] w fun e w' => e = .returned (.int .i64 (ovw n v)) ∧ Below w.heap.size w w' := by
  have BB := Below.refl w.heap.size w
  go_enter Try.func31, Try.ntmps31
  go_wp2_with (first | (go_at_call 44; refine (div_b _ _ _).mono ?_; rintro _ _ ⟨rfl, B⟩; replace BB := bon BB B))
  all_goals go_ret
  all_goals exact ⟨ret_int (by unfold ovw; first | rfl | (congr 1; omega)), BB⟩

set_option maxRecDepth 100000 in
theorem coord_b (low size n v : Int) (w : World) : Calls Try.prog 18 #[.int .i64 low, .int .i64 size, .int .i64 n, .int .i64 v] w fun e w' => e = .returned (.int .i64 (coord low size n v)) ∧ Below w.heap.size w w' := by
  have BB := Below.refl w.heap.size w
  have h1 := clamp_in (ovw n v) (-65536) 65536 (by omega)
  have h2 := clamp_in low 0 64 (by omega)
  have h3 := clamp_in size 0 64 (by omega)
  have h4 := coord_prod _ _ h1 h3
  have h5 := rda_bd ((clampv (ovw n v) (-65536) 65536 + 65536) * clampv size 0 64 * 256) 131072
  go_enter Try.func18, Try.ntmps18
  go_wp2_with (first | (go_at_call 30; refine (clamp_b _ _ _ _).mono ?_; rintro _ _ ⟨rfl, B⟩; replace BB := bon BB B) | (go_at_call 31; refine (ovw_b _ _ _).mono ?_; rintro _ _ ⟨rfl, B⟩; replace BB := bon BB B) | (go_at_call 32; refine (rounddiv_b _ _ _).mono ?_; rintro _ _ ⟨rfl, B⟩; replace BB := bon BB B))
  go_ret
  exact ⟨rfl, BB⟩

set_option maxRecDepth 100000 in
theorem rcoord_b (low size n v : Int) (w : World) : Calls Try.prog 19 #[.int .i64 low, .int .i64 size, .int .i64 n, .int .i64 v] w fun e w' => e = .returned (.int .i64 (coord low size n v)) ∧ Below w.heap.size w w' := by
  have BB := Below.refl w.heap.size w
  unfold coord ovw
  have h1 := clamp_in (divv n (max v 256)) (-65536) 65536 (by omega)
  have h2 := clamp_in low 0 64 (by omega)
  have h3 := clamp_in size 0 64 (by omega)
  have h4 := coord_prod _ _ h1 h3
  have h5 := rda_bd ((clampv (divv n (max v 256)) (-65536) 65536 + 65536) * clampv size 0 64 * 256) 131072
  rcases (show 256 ≤ v ∨ v < 256 by omega) with hv | hv
  · rw [show max v 256 = v by omega] at h1 h4 h5 ⊢
    go_enter Try.func19, Try.ntmps19
    go_wp2_with (first | (go_at_call 33; refine (rclamp_b _ _ _ _).mono ?_; rintro _ _ ⟨rfl, B⟩; replace BB := bon BB B) | (go_at_call 34; refine (rdiv_b _ _ _).mono ?_; rintro _ _ ⟨rfl, B⟩; replace BB := bon BB B) | (go_at_call 35; refine (rrounddiv_b _ _ _).mono ?_; rintro _ _ ⟨rfl, B⟩; replace BB := bon BB B))
    go_ret
    exact ⟨rfl, BB⟩
  · rw [show max v 256 = 256 by omega] at h1 h4 h5 ⊢
    go_enter Try.func19, Try.ntmps19
    go_wp2_with (first | (go_at_call 33; refine (rclamp_b _ _ _ _).mono ?_; rintro _ _ ⟨rfl, B⟩; replace BB := bon BB B) | (go_at_call 34; refine (rdiv_b _ _ _).mono ?_; rintro _ _ ⟨rfl, B⟩; replace BB := bon BB B) | (go_at_call 35; refine (rrounddiv_b _ _ _).mono ?_; rintro _ _ ⟨rfl, B⟩; replace BB := bon BB B))
    go_ret
    exact ⟨rfl, BB⟩

end Go.Proofs.Ytfpnbgmmgnpggaa
