/- What Valid, Covers of the reference return. -/
import Derived.Test.YtcnemjkcihlpeaaCV3
namespace Go.Proofs.Ytcnemjkcihlpeaa
set_option linter.unusedSimpArgs false
open Go.RowKit Go.Sort Go.ChangeShapes Go.WideShapes
set_option linter.unusedVariables false

set_option maxRecDepth 100000 in
set_option maxHeartbeats 4000000 in
theorem rvalid_b (a b c : SV) (p : Int) (f : Bool) (w : World) : Calls Try.prog 34 #[.agg #[.int .i64 a.x, .int .i64 a.y, .int .i64 a.z, .int .i64 a.q, .slice a.A a.n a.c, .int .i64 b.x, .int .i64 b.y, .int .i64 b.z, .int .i64 b.q, .slice b.A b.n b.c, .int .i64 c.x, .int .i64 c.y, .int .i64 c.z, .int .i64 c.q, .slice c.A c.n c.c, .int .i64 p, .bool f]] w fun e w' => e = .returned (.bool (trv a b c)) ∧ Below w.heap.size w w' := by
  have HN := Lib.hid (@trv_no a b c)
  have HY := Lib.hid (@trv_yes a b c)
  have BB := box_below w #[.int .i64 a.x, .int .i64 a.y, .int .i64 a.z, .int .i64 a.q, .slice a.A a.n a.c, .int .i64 b.x, .int .i64 b.y, .int .i64 b.z, .int .i64 b.q, .slice b.A b.n b.c, .int .i64 c.x, .int .i64 c.y, .int .i64 c.z, .int .i64 c.q, .slice c.A c.n c.c, .int .i64 p, .bool f] 36
  have X0 := EBox.made w #[.int .i64 a.x, .int .i64 a.y, .int .i64 a.z, .int .i64 a.q, .slice a.A a.n a.c, .int .i64 b.x, .int .i64 b.y, .int .i64 b.z, .int .i64 b.q, .slice b.A b.n b.c, .int .i64 c.x, .int .i64 c.y, .int .i64 c.z, .int .i64 c.q, .slice c.A c.n c.c, .int .i64 p, .bool f] 36
  have g0 := X0.cell (i := 10) rfl
  have g1 := X0.cell (i := 11) rfl
  have Esv_0 := range_cut X0.1 0 5
  have Esv_1 := range_cut X0.1 5 5
  have Esv_2 := range_cut X0.1 10 5
  simp only [List.drop_succ_cons, List.drop_zero, List.take_succ_cons, List.take_zero, Nat.zero_add] at Esv_0 Esv_1 Esv_2
  clear X0
  obtain ⟨u0, h0⟩ : ∃ u, inr a = u := ⟨_, rfl⟩
  obtain ⟨u1, h1⟩ : ∃ u, inr b = u := ⟨_, rfl⟩
  obtain ⟨u2, h2⟩ : ∃ u, inr c = u := ⟨_, rfl⟩
  have I0 := Lib.hid (fun W => rinside_at a u0 h0 W)
  have I1 := Lib.hid (fun W => rinside_at b u1 h1 W)
  have I2 := Lib.hid (fun W => rinside_at c u2 h2 W)
  cases u0
  · rw [HN.out (by rw [h0]; simp)]
    clear HN HY h0 h1 h2
    go_enter Try.func34, Try.ntmps34
    go_wp2_with (first
    | ((with_reducible refine eload5L rk_sv Esv_0 ?_ ?_); focus rfl)
    | ((with_reducible refine eload5L rk_sv Esv_1 ?_ ?_); focus rfl)
    | ((with_reducible refine eload5L rk_sv Esv_2 ?_ ?_); focus rfl)
    | ((with_reducible refine wpList_ungd ?_ ?_); (focus rfl); (with_reducible refine eload5L rk_sv Esv_0 ?_ ?_); focus rfl)
    | ((with_reducible refine wpList_ungd ?_ ?_); (focus rfl); (with_reducible refine eload5L rk_sv Esv_1 ?_ ?_); focus rfl)
    | ((with_reducible refine wpList_ungd ?_ ?_); (focus rfl); (with_reducible refine eload5L rk_sv Esv_2 ?_ ?_); focus rfl)
    | (go_at_call 39; (with_reducible refine (I0.out _).mono ?_); rintro _ W9 ⟨rfl, B⟩; replace BB := bon BB B; replace Esv_0 := rangeAt_on Esv_0 (B); replace Esv_1 := rangeAt_on Esv_1 (B); replace Esv_2 := rangeAt_on Esv_2 (B); replace g0 := cell_below (B) g0; replace g1 := cell_below (B) g1; skip; clear B))
    go_ret
    exact ⟨rfl, BB⟩
  cases u1
  · rw [HN.out (by rw [h1]; simp)]
    clear HN HY h0 h1 h2
    go_enter Try.func34, Try.ntmps34
    go_wp2_with (first
    | ((with_reducible refine eload5L rk_sv Esv_0 ?_ ?_); focus rfl)
    | ((with_reducible refine eload5L rk_sv Esv_1 ?_ ?_); focus rfl)
    | ((with_reducible refine eload5L rk_sv Esv_2 ?_ ?_); focus rfl)
    | ((with_reducible refine wpList_ungd ?_ ?_); (focus rfl); (with_reducible refine eload5L rk_sv Esv_0 ?_ ?_); focus rfl)
    | ((with_reducible refine wpList_ungd ?_ ?_); (focus rfl); (with_reducible refine eload5L rk_sv Esv_1 ?_ ?_); focus rfl)
    | ((with_reducible refine wpList_ungd ?_ ?_); (focus rfl); (with_reducible refine eload5L rk_sv Esv_2 ?_ ?_); focus rfl)
    | (go_at_call 39; (with_reducible refine (I0.out _).mono ?_); rintro _ W9 ⟨rfl, B⟩; replace BB := bon BB B; replace Esv_0 := rangeAt_on Esv_0 (B); replace Esv_1 := rangeAt_on Esv_1 (B); replace Esv_2 := rangeAt_on Esv_2 (B); replace g0 := cell_below (B) g0; replace g1 := cell_below (B) g1; skip; clear B)
    | (go_at_call 39; (with_reducible refine (I1.out _).mono ?_); rintro _ W9 ⟨rfl, B⟩; replace BB := bon BB B; replace Esv_0 := rangeAt_on Esv_0 (B); replace Esv_1 := rangeAt_on Esv_1 (B); replace Esv_2 := rangeAt_on Esv_2 (B); replace g0 := cell_below (B) g0; replace g1 := cell_below (B) g1; skip; clear B))
    go_ret
    exact ⟨rfl, BB⟩
  cases u2
  · rw [HN.out (by rw [h2]; simp)]
    clear HN HY h0 h1 h2
    go_enter Try.func34, Try.ntmps34
    go_wp2_with (first
    | ((with_reducible refine eload5L rk_sv Esv_0 ?_ ?_); focus rfl)
    | ((with_reducible refine eload5L rk_sv Esv_1 ?_ ?_); focus rfl)
    | ((with_reducible refine eload5L rk_sv Esv_2 ?_ ?_); focus rfl)
    | ((with_reducible refine wpList_ungd ?_ ?_); (focus rfl); (with_reducible refine eload5L rk_sv Esv_0 ?_ ?_); focus rfl)
    | ((with_reducible refine wpList_ungd ?_ ?_); (focus rfl); (with_reducible refine eload5L rk_sv Esv_1 ?_ ?_); focus rfl)
    | ((with_reducible refine wpList_ungd ?_ ?_); (focus rfl); (with_reducible refine eload5L rk_sv Esv_2 ?_ ?_); focus rfl)
    | (go_at_call 39; (with_reducible refine (I0.out _).mono ?_); rintro _ W9 ⟨rfl, B⟩; replace BB := bon BB B; replace Esv_0 := rangeAt_on Esv_0 (B); replace Esv_1 := rangeAt_on Esv_1 (B); replace Esv_2 := rangeAt_on Esv_2 (B); replace g0 := cell_below (B) g0; replace g1 := cell_below (B) g1; skip; clear B)
    | (go_at_call 39; (with_reducible refine (I1.out _).mono ?_); rintro _ W9 ⟨rfl, B⟩; replace BB := bon BB B; replace Esv_0 := rangeAt_on Esv_0 (B); replace Esv_1 := rangeAt_on Esv_1 (B); replace Esv_2 := rangeAt_on Esv_2 (B); replace g0 := cell_below (B) g0; replace g1 := cell_below (B) g1; skip; clear B)
    | (go_at_call 39; (with_reducible refine (I2.out _).mono ?_); rintro _ W9 ⟨rfl, B⟩; replace BB := bon BB B; replace Esv_0 := rangeAt_on Esv_0 (B); replace Esv_1 := rangeAt_on Esv_1 (B); replace Esv_2 := rangeAt_on Esv_2 (B); replace g0 := cell_below (B) g0; replace g1 := cell_below (B) g1; skip; clear B))
    go_ret
    exact ⟨rfl, BB⟩
  rw [HY.out h0 h1 h2]
  have CS := Lib.hid (fun W => rside_b a b c.x c.y (inr_on _ h0) (inr_on _ h1) (inr_on _ h2) W)
  clear HN HY h0 h1 h2
  go_enter Try.func34, Try.ntmps34
  go_wp2_with (first
    | ((with_reducible refine eload5L rk_sv Esv_0 ?_ ?_); focus rfl)
    | ((with_reducible refine eload5L rk_sv Esv_1 ?_ ?_); focus rfl)
    | ((with_reducible refine eload5L rk_sv Esv_2 ?_ ?_); focus rfl)
    | ((with_reducible refine wpList_ungd ?_ ?_); (focus rfl); (with_reducible refine eload5L rk_sv Esv_0 ?_ ?_); focus rfl)
    | ((with_reducible refine wpList_ungd ?_ ?_); (focus rfl); (with_reducible refine eload5L rk_sv Esv_1 ?_ ?_); focus rfl)
    | ((with_reducible refine wpList_ungd ?_ ?_); (focus rfl); (with_reducible refine eload5L rk_sv Esv_2 ?_ ?_); focus rfl)
    | (go_at_call 39; (with_reducible refine (I0.out _).mono ?_); rintro _ W9 ⟨rfl, B⟩; replace BB := bon BB B; replace Esv_0 := rangeAt_on Esv_0 (B); replace Esv_1 := rangeAt_on Esv_1 (B); replace Esv_2 := rangeAt_on Esv_2 (B); replace g0 := cell_below (B) g0; replace g1 := cell_below (B) g1; skip; clear B)
    | (go_at_call 39; (with_reducible refine (I1.out _).mono ?_); rintro _ W9 ⟨rfl, B⟩; replace BB := bon BB B; replace Esv_0 := rangeAt_on Esv_0 (B); replace Esv_1 := rangeAt_on Esv_1 (B); replace Esv_2 := rangeAt_on Esv_2 (B); replace g0 := cell_below (B) g0; replace g1 := cell_below (B) g1; skip; clear B)
    | (go_at_call 39; (with_reducible refine (I2.out _).mono ?_); rintro _ W9 ⟨rfl, B⟩; replace BB := bon BB B; replace Esv_0 := rangeAt_on Esv_0 (B); replace Esv_1 := rangeAt_on Esv_1 (B); replace Esv_2 := rangeAt_on Esv_2 (B); replace g0 := cell_below (B) g0; replace g1 := cell_below (B) g1; skip; clear B)
    | (go_at_call 40; (with_reducible refine (CS.out _).mono ?_); rintro _ W9 ⟨rfl, B⟩; replace BB := bon BB B; replace Esv_0 := rangeAt_on Esv_0 (B); replace Esv_1 := rangeAt_on Esv_1 (B); replace Esv_2 := rangeAt_on Esv_2 (B); replace g0 := cell_below (B) g0; replace g1 := cell_below (B) g1; skip; clear B))
  all_goals go_ret
  all_goals exact ⟨ret_bool (by first | rfl | (simp_all; done) | (simp; omega)), BB⟩

theorem rvalid_at (a b c : SV) (p : Int) (f : Bool) (v : Bool) (h : trv a b c = v) (w : World) : Calls Try.prog 34 #[.agg #[.int .i64 a.x, .int .i64 a.y, .int .i64 a.z, .int .i64 a.q, .slice a.A a.n a.c, .int .i64 b.x, .int .i64 b.y, .int .i64 b.z, .int .i64 b.q, .slice b.A b.n b.c, .int .i64 c.x, .int .i64 c.y, .int .i64 c.z, .int .i64 c.q, .slice c.A c.n c.c, .int .i64 p, .bool f]] w fun e w' => e = .returned (.bool v) ∧ Below w.heap.size w w' := h ▸ rvalid_b a b c p f w

set_option maxRecDepth 100000 in
set_option maxHeartbeats 4000000 in
theorem rcov_b (a b c : SV) (p : Int) (f : Bool) (px py : Int) (hp : onv px = px ∧ onv py = py) (w : World) : Calls Try.prog 31 #[.agg #[.int .i64 a.x, .int .i64 a.y, .int .i64 a.z, .int .i64 a.q, .slice a.A a.n a.c, .int .i64 b.x, .int .i64 b.y, .int .i64 b.z, .int .i64 b.q, .slice b.A b.n b.c, .int .i64 c.x, .int .i64 c.y, .int .i64 c.z, .int .i64 c.q, .slice c.A c.n c.c, .int .i64 p, .bool f], .int .i64 px, .int .i64 py] w fun e w' => e = .returned (.bool (cov a b c px py)) ∧ Below w.heap.size w w' := by
  unfold cov
  have BB := box_below w #[.int .i64 a.x, .int .i64 a.y, .int .i64 a.z, .int .i64 a.q, .slice a.A a.n a.c, .int .i64 b.x, .int .i64 b.y, .int .i64 b.z, .int .i64 b.q, .slice b.A b.n b.c, .int .i64 c.x, .int .i64 c.y, .int .i64 c.z, .int .i64 c.q, .slice c.A c.n c.c, .int .i64 p, .bool f] 36
  have X0 := EBox.made w #[.int .i64 a.x, .int .i64 a.y, .int .i64 a.z, .int .i64 a.q, .slice a.A a.n a.c, .int .i64 b.x, .int .i64 b.y, .int .i64 b.z, .int .i64 b.q, .slice b.A b.n b.c, .int .i64 c.x, .int .i64 c.y, .int .i64 c.z, .int .i64 c.q, .slice c.A c.n c.c, .int .i64 p, .bool f] 36
  have Etr := range_cut X0.1 0 17
  have Esv_0 := range_cut X0.1 0 5
  have Esv_1 := range_cut X0.1 5 5
  have Esv_2 := range_cut X0.1 10 5
  simp only [List.drop_succ_cons, List.drop_zero, List.take_succ_cons, List.take_zero, Nat.zero_add] at Etr Esv_0 Esv_1 Esv_2
  clear X0
  obtain ⟨v, hv⟩ : ∃ v, trv a b c = v := ⟨_, rfl⟩
  have CV := Lib.hid (fun W => rvalid_at a b c p f v hv W)
  cases v
  · rw [hv]
    clear hv hp
    go_enter Try.func31, Try.ntmps31
    go_wp2_with (first
    | ((with_reducible refine eload17L rk_tr Etr ?_ ?_); focus rfl)
    | ((with_reducible refine eload5L rk_sv Esv_0 ?_ ?_); focus rfl)
    | ((with_reducible refine eload5L rk_sv Esv_1 ?_ ?_); focus rfl)
    | ((with_reducible refine eload5L rk_sv Esv_2 ?_ ?_); focus rfl)
    | ((with_reducible refine wpList_ungd ?_ ?_); (focus rfl); (with_reducible refine eload5L rk_sv Esv_0 ?_ ?_); focus rfl)
    | ((with_reducible refine wpList_ungd ?_ ?_); (focus rfl); (with_reducible refine eload5L rk_sv Esv_1 ?_ ?_); focus rfl)
    | ((with_reducible refine wpList_ungd ?_ ?_); (focus rfl); (with_reducible refine eload5L rk_sv Esv_2 ?_ ?_); focus rfl)
    | (go_at_call 34; (with_reducible refine (CV.out _).mono ?_); rintro _ W9 ⟨rfl, B⟩; replace BB := bon BB B; replace Etr := rangeAt_on Etr (B); replace Esv_0 := rangeAt_on Esv_0 (B); replace Esv_1 := rangeAt_on Esv_1 (B); replace Esv_2 := rangeAt_on Esv_2 (B); skip; clear B))
    go_ret
    exact ⟨rfl, BB⟩
  rw [hv]
  obtain ⟨⟨o0, o1, o2, o3, o4, o5⟩, _, _⟩ := trv_in hv
  obtain ⟨x0, h0⟩ : ∃ u, acc a.x a.y b.x b.y px py = u := ⟨_, rfl⟩
  obtain ⟨x1, h1⟩ : ∃ u, acc b.x b.y c.x c.y px py = u := ⟨_, rfl⟩
  obtain ⟨x2, h2⟩ : ∃ u, acc c.x c.y a.x a.y px py = u := ⟨_, rfl⟩
  have A0 := Lib.hid (fun W => raccepts_at a b px py x0 ⟨o0, o1⟩ ⟨o2, o3⟩ hp h0 W)
  have A1 := Lib.hid (fun W => raccepts_at b c px py x1 ⟨o2, o3⟩ ⟨o4, o5⟩ hp h1 W)
  have A2 := Lib.hid (fun W => raccepts_at c a px py x2 ⟨o4, o5⟩ ⟨o0, o1⟩ hp h2 W)
  rw [h0, h1, h2]
  clear hv hp h0 h1 h2 o0 o1 o2 o3 o4 o5
  rcases (show x0 = false ∨ (x0 = true ∧ x1 = false) ∨ (x0 = true ∧ x1 = true) by cases x0 <;> cases x1 <;> simp) with rfl | ⟨rfl, rfl⟩ | ⟨rfl, rfl⟩
  all_goals
    go_enter Try.func31, Try.ntmps31
    go_wp2_with (first
    | ((with_reducible refine eload17L rk_tr Etr ?_ ?_); focus rfl)
    | ((with_reducible refine eload5L rk_sv Esv_0 ?_ ?_); focus rfl)
    | ((with_reducible refine eload5L rk_sv Esv_1 ?_ ?_); focus rfl)
    | ((with_reducible refine eload5L rk_sv Esv_2 ?_ ?_); focus rfl)
    | ((with_reducible refine wpList_ungd ?_ ?_); (focus rfl); (with_reducible refine eload5L rk_sv Esv_0 ?_ ?_); focus rfl)
    | ((with_reducible refine wpList_ungd ?_ ?_); (focus rfl); (with_reducible refine eload5L rk_sv Esv_1 ?_ ?_); focus rfl)
    | ((with_reducible refine wpList_ungd ?_ ?_); (focus rfl); (with_reducible refine eload5L rk_sv Esv_2 ?_ ?_); focus rfl)
    | (go_at_call 34; (with_reducible refine (CV.out _).mono ?_); rintro _ W9 ⟨rfl, B⟩; replace BB := bon BB B; replace Etr := rangeAt_on Etr (B); replace Esv_0 := rangeAt_on Esv_0 (B); replace Esv_1 := rangeAt_on Esv_1 (B); replace Esv_2 := rangeAt_on Esv_2 (B); skip; clear B)
    | (go_at_call 38; (with_reducible refine (A0.out _).mono ?_); rintro _ W9 ⟨rfl, B⟩; replace BB := bon BB B; replace Etr := rangeAt_on Etr (B); replace Esv_0 := rangeAt_on Esv_0 (B); replace Esv_1 := rangeAt_on Esv_1 (B); replace Esv_2 := rangeAt_on Esv_2 (B); skip; clear B)
    | (go_at_call 38; (with_reducible refine (A1.out _).mono ?_); rintro _ W9 ⟨rfl, B⟩; replace BB := bon BB B; replace Etr := rangeAt_on Etr (B); replace Esv_0 := rangeAt_on Esv_0 (B); replace Esv_1 := rangeAt_on Esv_1 (B); replace Esv_2 := rangeAt_on Esv_2 (B); skip; clear B)
    | (go_at_call 38; (with_reducible refine (A2.out _).mono ?_); rintro _ W9 ⟨rfl, B⟩; replace BB := bon BB B; replace Etr := rangeAt_on Etr (B); replace Esv_0 := rangeAt_on Esv_0 (B); replace Esv_1 := rangeAt_on Esv_1 (B); replace Esv_2 := rangeAt_on Esv_2 (B); skip; clear B))
    all_goals go_ret
    all_goals exact ⟨ret_bool (by first | rfl | (simp_all; done) | (simp; omega)), BB⟩

theorem rcov_at (a b c : SV) (p : Int) (f : Bool) (px py : Int) (v : Bool) (hp : onv px = px ∧ onv py = py) (h : cov a b c px py = v) (w : World) : Calls Try.prog 31 #[.agg #[.int .i64 a.x, .int .i64 a.y, .int .i64 a.z, .int .i64 a.q, .slice a.A a.n a.c, .int .i64 b.x, .int .i64 b.y, .int .i64 b.z, .int .i64 b.q, .slice b.A b.n b.c, .int .i64 c.x, .int .i64 c.y, .int .i64 c.z, .int .i64 c.q, .slice c.A c.n c.c, .int .i64 p, .bool f], .int .i64 px, .int .i64 py] w fun e w' => e = .returned (.bool v) ∧ Below w.heap.size w w' := h ▸ rcov_b a b c p f px py hp w

end Go.Proofs.Ytcnemjkcihlpeaa
