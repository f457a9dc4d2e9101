/- What inside, side, accepts, Positions of the reference return. -/
import Derived.Test.YtcnemjkcihlpeaaCV1
namespace Go.Proofs.Ytcnemjkcihlpeaa
set_option linter.unusedSimpArgs false
open Go.RowKit Go.Sort Go.ChangeShapes Go.WideShapes
set_option linter.unusedVariables false

theorem rinside_b (v : SV) (w : World) : Calls Try.prog 39 #[.agg #[.int .i64 v.x, .int .i64 v.y, .int .i64 v.z, .int .i64 v.q, .slice v.A v.n v.c]] w fun e w' => e = .returned (.bool (inr v)) ∧ Below w.heap.size w w' := by
  unfold inr
  have BB := box_below w #[.int .i64 v.x, .int .i64 v.y, .int .i64 v.z, .int .i64 v.q, .slice v.A v.n v.c] 33
  have X0 := EBox.made w #[.int .i64 v.x, .int .i64 v.y, .int .i64 v.z, .int .i64 v.q, .slice v.A v.n v.c] 33
  have c0 := X0.cell (i := 0) rfl
  have c1 := X0.cell (i := 1) rfl
  clear X0
  go_enter Try.func39, Try.ntmps39
  go_wp2
  all_goals go_ret
  all_goals exact ⟨ret_bool (by first | (simp_all; done) | (simp_all; omega)), BB⟩

theorem rinside_at (v : SV) (u : Bool) (h : inr v = u) (w : World) : Calls Try.prog 39 #[.agg #[.int .i64 v.x, .int .i64 v.y, .int .i64 v.z, .int .i64 v.q, .slice v.A v.n v.c]] w fun e w' => e = .returned (.bool u) ∧ Below w.heap.size w w' := h ▸ rinside_b v w

set_option maxHeartbeats 1000000 in
theorem rside_b (a b : SV) (px py : Int) (ha : onv a.x = a.x ∧ onv a.y = a.y) (hb : onv b.x = b.x ∧ onv b.y = b.y) (hp : onv px = px ∧ onv py = py) (w : World) : Calls Try.prog 40 #[.agg #[.int .i64 a.x, .int .i64 a.y, .int .i64 a.z, .int .i64 a.q, .slice a.A a.n a.c], .agg #[.int .i64 b.x, .int .i64 b.y, .int .i64 b.z, .int .i64 b.q, .slice b.A b.n b.c], .int .i64 px, .int .i64 py] w fun e w' => e = .returned (.int .i64 (efn a.x a.y b.x b.y px py)) ∧ Below w.heap.size w w' := by
  have h1 := onv_bd a.x
  have h2 := onv_bd a.y
  have h3 := onv_bd b.x
  have h4 := onv_bd b.y
  have h5 := onv_bd px
  have h6 := onv_bd py
  obtain ⟨h7, h8⟩ := efn_prods a.x a.y b.x b.y px py
  unfold efn
  simp only [ha.1, ha.2, hb.1, hb.2, hp.1, hp.2] at h1 h2 h3 h4 h5 h6 h7 h8 ⊢
  clear ha hb hp
  have BB := box_below w #[.int .i64 a.x, .int .i64 a.y, .int .i64 a.z, .int .i64 a.q, .slice a.A a.n a.c] 33
  have X0 := EBox.made w #[.int .i64 a.x, .int .i64 a.y, .int .i64 a.z, .int .i64 a.q, .slice a.A a.n a.c] 33
  have hsz1 : (w.alloc (.cells #[.int .i64 a.x, .int .i64 a.y, .int .i64 a.z, .int .i64 a.q, .slice a.A a.n a.c] 33)).heap.size = w.heap.size + 1 := by simp
  have X1 := EBox.made (w.alloc (.cells #[.int .i64 a.x, .int .i64 a.y, .int .i64 a.z, .int .i64 a.q, .slice a.A a.n a.c] 33)) #[.int .i64 b.x, .int .i64 b.y, .int .i64 b.z, .int .i64 b.q, .slice b.A b.n b.c] 33
  rw [hsz1] at X1
  replace X0 := X0.on (Nat.succ_pos _) (box_below (w.alloc (.cells #[.int .i64 a.x, .int .i64 a.y, .int .i64 a.z, .int .i64 a.q, .slice a.A a.n a.c] 33)) #[.int .i64 b.x, .int .i64 b.y, .int .i64 b.z, .int .i64 b.q, .slice b.A b.n b.c] 33)
  replace BB := bon BB (box_below (w.alloc (.cells #[.int .i64 a.x, .int .i64 a.y, .int .i64 a.z, .int .i64 a.q, .slice a.A a.n a.c] 33)) #[.int .i64 b.x, .int .i64 b.y, .int .i64 b.z, .int .i64 b.q, .slice b.A b.n b.c] 33)
  clear hsz1
  have c0 := X0.cell (i := 0) rfl
  have c1 := X0.cell (i := 1) rfl
  have d0 := X1.cell (i := 0) rfl
  have d1 := X1.cell (i := 1) rfl
  clear X0 X1
  go_enter Try.func40, Try.ntmps40
  go_wp2
  go_ret
  exact ⟨rfl, BB⟩

set_option maxRecDepth 100000 in
set_option maxHeartbeats 2000000 in
theorem raccepts_b (a b : SV) (px py : Int) (ha : onv a.x = a.x ∧ onv a.y = a.y) (hb : onv b.x = b.x ∧ onv b.y = b.y) (hp : onv px = px ∧ onv py = py) (w : World) : Calls Try.prog 38 #[.agg #[.int .i64 a.x, .int .i64 a.y, .int .i64 a.z, .int .i64 a.q, .slice a.A a.n a.c], .agg #[.int .i64 b.x, .int .i64 b.y, .int .i64 b.z, .int .i64 b.q, .slice b.A b.n b.c], .int .i64 px, .int .i64 py] w fun e w' => e = .returned (.bool (acc a.x a.y b.x b.y px py)) ∧ Below w.heap.size w w' := by
  have CF := Lib.hid (fun W => rside_b a b px py ha hb hp W)
  unfold acc tlv
  simp only [ha.1, ha.2, hb.1, hb.2]
  clear ha hb hp
  obtain ⟨f, hf⟩ : ∃ f, efn a.x a.y b.x b.y px py = f := ⟨_, rfl⟩
  rw [hf] at CF ⊢
  clear hf
  have BB := box_below w #[.int .i64 a.x, .int .i64 a.y, .int .i64 a.z, .int .i64 a.q, .slice a.A a.n a.c] 33
  have X0 := EBox.made w #[.int .i64 a.x, .int .i64 a.y, .int .i64 a.z, .int .i64 a.q, .slice a.A a.n a.c] 33
  have hsz1 : (w.alloc (.cells #[.int .i64 a.x, .int .i64 a.y, .int .i64 a.z, .int .i64 a.q, .slice a.A a.n a.c] 33)).heap.size = w.heap.size + 1 := by simp
  have X1 := EBox.made (w.alloc (.cells #[.int .i64 a.x, .int .i64 a.y, .int .i64 a.z, .int .i64 a.q, .slice a.A a.n a.c] 33)) #[.int .i64 b.x, .int .i64 b.y, .int .i64 b.z, .int .i64 b.q, .slice b.A b.n b.c] 33
  rw [hsz1] at X1
  replace X0 := X0.on (Nat.succ_pos _) (box_below (w.alloc (.cells #[.int .i64 a.x, .int .i64 a.y, .int .i64 a.z, .int .i64 a.q, .slice a.A a.n a.c] 33)) #[.int .i64 b.x, .int .i64 b.y, .int .i64 b.z, .int .i64 b.q, .slice b.A b.n b.c] 33)
  replace BB := bon BB (box_below (w.alloc (.cells #[.int .i64 a.x, .int .i64 a.y, .int .i64 a.z, .int .i64 a.q, .slice a.A a.n a.c] 33)) #[.int .i64 b.x, .int .i64 b.y, .int .i64 b.z, .int .i64 b.q, .slice b.A b.n b.c] 33)
  clear hsz1
  have c0 := X0.cell (i := 0) rfl
  have c1 := X0.cell (i := 1) rfl
  have Esv_0 := range_cut X0.1 0 5
  simp only [List.drop_succ_cons, List.drop_zero, List.take_succ_cons, List.take_zero, Nat.zero_add] at Esv_0
  have d0 := X1.cell (i := 0) rfl
  have d1 := X1.cell (i := 1) rfl
  have Esv_1 := range_cut X1.1 0 5
  simp only [List.drop_succ_cons, List.drop_zero, List.take_succ_cons, List.take_zero, Nat.zero_add] at Esv_1
  clear X0 X1
  go_enter Try.func38, Try.ntmps38
  go_wp2_with (first
    | ((with_reducible refine eload5L rk_sv Esv_0 ?_ ?_); focus rfl)
    | ((with_reducible refine eload5L rk_sv Esv_1 ?_ ?_); focus rfl)
    | (go_at_call 40; (with_reducible refine (CF.out _).mono ?_); rintro _ W9 ⟨rfl, B⟩; replace BB := bon BB B; replace c0 := cell_below (B) c0; replace c1 := cell_below (B) c1; replace d0 := cell_below (B) d0; replace d1 := cell_below (B) d1; skip; clear B))
  all_goals go_ret
  all_goals exact ⟨ret_bool (by first | (simp_all; done) | (simp_all; omega) | (simp; omega)), BB⟩

theorem raccepts_at (a b : SV) (px py : Int) (u : Bool) (ha : onv a.x = a.x ∧ onv a.y = a.y) (hb : onv b.x = b.x ∧ onv b.y = b.y) (hp : onv px = px ∧ onv py = py) (h : acc a.x a.y b.x b.y px py = u) (w : World) : Calls Try.prog 38 #[.agg #[.int .i64 a.x, .int .i64 a.y, .int .i64 a.z, .int .i64 a.q, .slice a.A a.n a.c], .agg #[.int .i64 b.x, .int .i64 b.y, .int .i64 b.z, .int .i64 b.q, .slice b.A b.n b.c], .int .i64 px, .int .i64 py] w fun e w' => e = .returned (.bool u) ∧ Below w.heap.size w w' := h ▸ raccepts_b a b px py ha hb hp w

theorem inr_on (v : SV) (h : inr v = true) : onv v.x = v.x ∧ onv v.y = v.y := by
  unfold inr at h
  simp only [decide_eq_true_eq] at h
  exact ⟨onv_id _ h.1 h.2.1, onv_id _ h.2.2.1 h.2.2.2⟩

theorem trv_no {a b c : SV} (h : ¬ (inr a = true ∧ inr b = true ∧ inr c = true)) : trv a b c = false := by
  unfold trv areav
  rw [if_neg (by unfold inr3; simp only [Bool.and_eq_true]; intro q; exact h ⟨q.1.1, q.1.2, q.2⟩)]
  rfl

theorem trv_yes {a b c : SV} (ha : inr a = true) (hb : inr b = true) (hc : inr c = true) : trv a b c = decide (0 < efn a.x a.y b.x b.y c.x c.y) := by
  unfold trv areav efn
  rw [if_pos (by unfold inr3; simp only [ha, hb, hc]; rfl)]
  simp only [(inr_on _ ha).1, (inr_on _ ha).2, (inr_on _ hb).1, (inr_on _ hb).2, (inr_on _ hc).1, (inr_on _ hc).2]

theorem rpos_1 (w : World) : Calls Try.prog 10 #[.int .i64 1] w fun e w' => ∃ A c, e = .returned (.slice A 1 c) ∧ RdE pt2 2 w' w'.heap.size A 1 [(128, 128)] ∧ Below w.heap.size w w' := by
  have OW : OwnE pt2 2 (w.alloc (.cells #[.int .i64 128, .int .i64 128] 24)) w.heap.size 24 (some ⟨w.heap.size, 0, none⟩) 1 1 [(128, 128)] := OwnE.lit ptEnc w 24 [(128, 128)] (by simp [maxLen])
  have R := OW.rd ptEnc
  have BB := box_below w #[.int .i64 128, .int .i64 128] 24
  clear OW
  have HR := Lib.hid R
  clear R
  go_enter Try.func10, Try.ntmps10
  go_wp2
  go_ret
  exact ⟨_, _, rfl, HR.out, BB⟩

theorem rpos_2 (w : World) : Calls Try.prog 10 #[.int .i64 2] w fun e w' => ∃ A c, e = .returned (.slice A 2 c) ∧ RdE pt2 2 w' w'.heap.size A 2 [(192, 192), (64, 64)] ∧ Below w.heap.size w w' := by
  have OW : OwnE pt2 2 (w.alloc (.cells #[.int .i64 192, .int .i64 192, .int .i64 64, .int .i64 64] 24)) w.heap.size 24 (some ⟨w.heap.size, 0, none⟩) 2 2 [(192, 192), (64, 64)] := OwnE.lit ptEnc w 24 [(192, 192), (64, 64)] (by simp [maxLen])
  have R := OW.rd ptEnc
  have BB := box_below w #[.int .i64 192, .int .i64 192, .int .i64 64, .int .i64 64] 24
  clear OW
  have HR := Lib.hid R
  clear R
  go_enter Try.func10, Try.ntmps10
  go_wp2
  go_ret
  exact ⟨_, _, rfl, HR.out, BB⟩

theorem rpos_4 (w : World) : Calls Try.prog 10 #[.int .i64 4] w fun e w' => ∃ A c, e = .returned (.slice A 4 c) ∧ RdE pt2 2 w' w'.heap.size A 4 [(96, 32), (224, 96), (32, 160), (160, 224)] ∧ Below w.heap.size w w' := by
  have OW : OwnE pt2 2 (w.alloc (.cells #[.int .i64 96, .int .i64 32, .int .i64 224, .int .i64 96, .int .i64 32, .int .i64 160, .int .i64 160, .int .i64 224] 24)) w.heap.size 24 (some ⟨w.heap.size, 0, none⟩) 4 4 [(96, 32), (224, 96), (32, 160), (160, 224)] := OwnE.lit ptEnc w 24 [(96, 32), (224, 96), (32, 160), (160, 224)] (by simp [maxLen])
  have R := OW.rd ptEnc
  have BB := box_below w #[.int .i64 96, .int .i64 32, .int .i64 224, .int .i64 96, .int .i64 32, .int .i64 160, .int .i64 160, .int .i64 224] 24
  clear OW
  have HR := Lib.hid R
  clear R
  go_enter Try.func10, Try.ntmps10
  go_wp2
  go_ret
  exact ⟨_, _, rfl, HR.out, BB⟩

theorem rpos_8 (w : World) : Calls Try.prog 10 #[.int .i64 8] w fun e w' => ∃ A c, e = .returned (.slice A 8 c) ∧ RdE pt2 2 w' w'.heap.size A 8 [(144, 80), (112, 176), (208, 144), (80, 48), (48, 208), (16, 112), (176, 240), (240, 16)] ∧ Below w.heap.size w w' := by
  have OW : OwnE pt2 2 (w.alloc (.cells #[.int .i64 144, .int .i64 80, .int .i64 112, .int .i64 176, .int .i64 208, .int .i64 144, .int .i64 80, .int .i64 48, .int .i64 48, .int .i64 208, .int .i64 16, .int .i64 112, .int .i64 176, .int .i64 240, .int .i64 240, .int .i64 16] 24)) w.heap.size 24 (some ⟨w.heap.size, 0, none⟩) 8 8 [(144, 80), (112, 176), (208, 144), (80, 48), (48, 208), (16, 112), (176, 240), (240, 16)] := OwnE.lit ptEnc w 24 [(144, 80), (112, 176), (208, 144), (80, 48), (48, 208), (16, 112), (176, 240), (240, 16)] (by simp [maxLen])
  have R := OW.rd ptEnc
  have BB := box_below w #[.int .i64 144, .int .i64 80, .int .i64 112, .int .i64 176, .int .i64 208, .int .i64 144, .int .i64 80, .int .i64 48, .int .i64 48, .int .i64 208, .int .i64 16, .int .i64 112, .int .i64 176, .int .i64 240, .int .i64 240, .int .i64 16] 24
  clear OW
  have HR := Lib.hid R
  clear R
  go_enter Try.func10, Try.ntmps10
  go_wp2
  go_ret
  exact ⟨_, _, rfl, HR.out, BB⟩

theorem rpos_none (n : Int) (h1 : ¬ n = 1) (h2 : ¬ n = 2) (h4 : ¬ n = 4) (h8 : ¬ n = 8) (w : World) : Calls Try.prog 10 #[.int .i64 n] w fun e w' => ∃ A c, e = .returned (.slice A 0 c) ∧ RdE pt2 2 w' w'.heap.size A 0 [] ∧ Below w.heap.size w w' := by
  have g1 : (n == 1) = false := by simpa using h1
  have g2 : (n == 2) = false := by simpa using h2
  have g4 : (n == 4) = false := by simpa using h4
  have g8 : (n == 8) = false := by simpa using h8
  go_enter Try.func10, Try.ntmps10
  go_wp2
  go_ret
  exact ⟨_, _, rfl, RdE.nil _ _ _ _ _, Below.refl _ _⟩

theorem rpos_b (n : Int) (w : World) : Calls Try.prog 10 #[.int .i64 n] w fun e w' => ∃ A c, e = .returned (.slice A (posl n).length c) ∧ RdE pt2 2 w' w'.heap.size A (posl n).length (posl n) ∧ Below w.heap.size w w' := by
  by_cases h1 : n = 1
  · subst h1; exact rpos_1 w
  by_cases h2 : n = 2
  · subst h2; exact rpos_2 w
  by_cases h4 : n = 4
  · subst h4; exact rpos_4 w
  by_cases h8 : n = 8
  · subst h8; exact rpos_8 w
  have e : posl n = [] := by unfold posl; rw [if_neg h1, if_neg h2, if_neg h4, if_neg h8]
  rw [e]
  exact rpos_none n h1 h2 h4 h8 w

end Go.Proofs.Ytcnemjkcihlpeaa
