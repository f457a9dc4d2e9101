/- The walk of TexelQuantize. -/
import Derived.Test.YtlfgpdohaomnlaaT8
namespace Go.Proofs.Ytlfgpdohaomnlaa
open Go.RowKit Go.Sort

set_option maxRecDepth 100000 in
set_option maxHeartbeats 2000000 in
theorem quantize_case (f x0 x1 x2 x3 q0 q1 q2 q3 : Int) (n : Nat) (w : World) (hn : n ≤ 4)
    (C1 : Hid (∀ W, Calls Try.prog 25 #[.int .i64 f, .agg #[.int .i64 x0, .int .i64 x1, .int .i64 x2, .int .i64 x3]] W fun e w' => e = .returned (.agg #[.int .i64 q0, .int .i64 q1, .int .i64 q2, .int .i64 q3]) ∧ Below W.heap.size W w'))
    (C2 : Hid (∀ W, Calls Try.prog 25 #[.int .i64 f, .agg #[.int .i64 q0, .int .i64 q1, .int .i64 q2, .int .i64 q3]] W fun e w' => e = .returned (.agg #[.int .i64 q0, .int .i64 q1, .int .i64 q2, .int .i64 q3]) ∧ Below W.heap.size W w'))
    (C3 : Hid (∀ W, Calls Try.prog 19 #[.int .i64 f] W fun e w' => e = .returned (.bool true) ∧ Below W.heap.size W w'))
    (C4 : Hid (∀ W, Calls Try.prog 21 #[.int .i64 f] W fun e w' => e = .returned (.int .i64 n) ∧ Below W.heap.size W w'))
    (m0 : Hid (n ≤ 0 → q0 = 0)) (m1 : Hid (n ≤ 1 → q1 = 0)) (m2 : Hid (n ≤ 2 → q2 = 0)) (m3 : Hid (n ≤ 3 → q3 = 65536)) (d0 : Hid (f ≤ 4 → 0 ≤ q0 ∧ q0 ≤ 65536)) (d1 : Hid (f ≤ 4 → 0 ≤ q1 ∧ q1 ≤ 65536)) (d2 : Hid (f ≤ 4 → 0 ≤ q2 ∧ q2 ≤ 65536)) (d3 : Hid (f ≤ 4 → 0 ≤ q3 ∧ q3 ≤ 65536)) :
    Calls Try.prog 7 #[.int .i64 f, .agg #[.int .i64 x0, .int .i64 x1, .int .i64 x2, .int .i64 x3]] w fun e w' => e = .returned (.bool true) ∧ Below w.heap.size w w' := by
  obtain ⟨a0, a1, a2, a3, BB⟩ := box4 w (.int .i64 x0) (.int .i64 x1) (.int .i64 x2) (.int .i64 x3) 25
  go_enter Try.func7, Try.ntmps7
  go_wp2_with (go_at_call 25; (with_reducible refine (C1.out _).mono ?_); rintro _ W1 ⟨rfl, B⟩; replace BB := bon BB B; clear B a0 a1 a2 a3)
  obtain ⟨_, v0, v1, v2, v3, BX⟩ := box4_on BB (.int .i64 q0) (.int .i64 q1) (.int .i64 q2) (.int .i64 q3) 25
  refine letter (S := fun U => VecAt U W1.heap.size q0 q1 q2 q3 ∧ Below w.heap.size w U) ?_ ⟨⟨v0, v1, v2, v3⟩, BX⟩
  clear v0 v1 v2 v3 BX BB
  generalize W1.heap.size = vb
  rintro U ⟨⟨c0, c1, c2, c3⟩, BB⟩
  have k_c0 := cell_regrown c0
  have k_c1 := cell_regrown c1
  have k_c2 := cell_regrown c2
  have k_c3 := cell_regrown c3
  refine wp_region_quiet_below (by kernel_rfl) (by kernel_rfl) ?_
  repeat (first | go_big_quiet_step ((first | (go_at_call 25; exact Calls.regrown_of (C2.out _)))) | quiet_step ((first | (go_at_call 25; exact Calls.regrown_of (C2.out _)))))
  refine wpQuiet_nil ?_
  intro W hw'
  have B := below_regrown' hw'
  clear hw' k_c0 k_c1 k_c2 k_c3
  replace BB := bon BB B
  replace c0 := cell_below B c0
  replace c1 := cell_below B c1
  replace c2 := cell_below B c2
  replace c3 := cell_below B c3
  go_wp2_with (first
    | (go_at_call 19; (with_reducible refine (C3.out _).mono ?_); rintro _ W2 ⟨rfl, B⟩; replace c0 := cell_below B c0; replace c1 := cell_below B c1; replace c2 := cell_below B c2; replace c3 := cell_below B c3; replace BB := bon BB B; clear B)
    | (go_at_call 21; (with_reducible refine (C4.out _).mono ?_); rintro _ W4 ⟨rfl, B⟩; replace c0 := cell_below B c0; replace c1 := cell_below B c1; replace c2 := cell_below B c2; replace c3 := cell_below B c3; replace BB := bon BB B; clear B))
  obtain ⟨_, v0, v1, v2, v3, BX⟩ := box4_on BB (.int .i64 q0) (.int .i64 q1) (.int .i64 q2) (.int .i64 q3) 3
  refine letter (S := fun U => VecAt U W4.heap.size q0 q1 q2 q3 ∧ Below w.heap.size w U) ?_ ⟨⟨v0, v1, v2, v3⟩, BX⟩
  clear v0 v1 v2 v3 BX BB c0 c1 c2 c3
  generalize W4.heap.size = lb
  rintro V ⟨⟨c0, c1, c2, c3⟩, BB⟩
  go_loop [8] (fun i => ∃ k : Nat, k ≤ 4 ∧ i = .int .i64 k) (fun i => 4 - (intOf i).toNat)
  case atStart => exact ⟨0, by omega, rfl⟩
  case round =>
    obtain ⟨k, hk, rfl⟩ := hrel
    by_cases hlt : k < 4
    · by_cases hnk : n ≤ k
      · by_cases hf : f ≤ 4
        · have e0 := d0.out hf
          have e1 := d1.out hf
          have e2 := d2.out hf
          have e3 := d3.out hf
          obtain ⟨e00, e01⟩ := e0
          obtain ⟨e10, e11⟩ := e1
          obtain ⟨e20, e21⟩ := e2
          obtain ⟨e30, e31⟩ := e3
          rcases (show k = 0 ∨ k = 1 ∨ k = 2 ∨ k = 3 by omega) with rfl | rfl | rfl | rfl
          · obtain rfl := m0.out hnk
            go_wp2
            go_round
            case rel => exact ⟨1, by omega, by go_num⟩
            case measure => simp [intOf]
          · obtain rfl := m1.out hnk
            go_wp2
            go_round
            case rel => exact ⟨2, by omega, by go_num⟩
            case measure => simp [intOf]
          · obtain rfl := m2.out hnk
            go_wp2
            go_round
            case rel => exact ⟨3, by omega, by go_num⟩
            case measure => simp [intOf]
          · obtain rfl := m3.out hnk
            go_wp2
            go_round
            case rel => exact ⟨4, by omega, by go_num⟩
            case measure => simp [intOf]
        · have hf' : 4 < f := by omega
          rcases (show k = 0 ∨ k = 1 ∨ k = 2 ∨ k = 3 by omega) with rfl | rfl | rfl | rfl
          · obtain rfl := m0.out hnk
            go_wp2
            go_round
            case rel => exact ⟨1, by omega, by go_num⟩
            case measure => simp [intOf]
          · obtain rfl := m1.out hnk
            go_wp2
            go_round
            case rel => exact ⟨2, by omega, by go_num⟩
            case measure => simp [intOf]
          · obtain rfl := m2.out hnk
            go_wp2
            go_round
            case rel => exact ⟨3, by omega, by go_num⟩
            case measure => simp [intOf]
          · obtain rfl := m3.out hnk
            go_wp2
            go_round
            case rel => exact ⟨4, by omega, by go_num⟩
            case measure => simp [intOf]
      · have hnk' : k < n := by omega
        by_cases hf : f ≤ 4
        · obtain ⟨e00, e01⟩ := d0.out hf
          obtain ⟨e10, e11⟩ := d1.out hf
          obtain ⟨e20, e21⟩ := d2.out hf
          obtain ⟨e30, e31⟩ := d3.out hf
          rcases (show k = 0 ∨ k = 1 ∨ k = 2 ∨ k = 3 by omega) with rfl | rfl | rfl | rfl
          all_goals
            go_wp2
            go_round
            case rel => first | exact ⟨1, by omega, by go_num⟩ | exact ⟨2, by omega, by go_num⟩ | exact ⟨3, by omega, by go_num⟩ | exact ⟨4, by omega, by go_num⟩
            case measure => simp [intOf]
        · have hf' : 4 < f := by omega
          rcases (show k = 0 ∨ k = 1 ∨ k = 2 ∨ k = 3 by omega) with rfl | rfl | rfl | rfl
          all_goals
            go_wp2
            go_round
            case rel => first | exact ⟨1, by omega, by go_num⟩ | exact ⟨2, by omega, by go_num⟩ | exact ⟨3, by omega, by go_num⟩ | exact ⟨4, by omega, by go_num⟩
            case measure => simp [intOf]
    · obtain rfl : k = 4 := by omega
      go_wp2_with (go_at_call 13; (with_reducible refine (texample_b _).mono ?_); rintro _ W9 ⟨rfl, B⟩; replace BB := bon BB B; clear B)
      go_ret
      exact ⟨rfl, BB⟩

set_option maxRecDepth 100000 in
theorem quantize_none (f x0 x1 x2 x3 : Int) (w : World)
    (C1 : Hid (∀ W, Calls Try.prog 25 #[.int .i64 f, .agg #[.int .i64 x0, .int .i64 x1, .int .i64 x2, .int .i64 x3]] W fun e w' => e = .returned (.agg #[.int .i64 0, .int .i64 0, .int .i64 0, .int .i64 0]) ∧ Below W.heap.size W w'))
    (C2 : Hid (∀ W, Calls Try.prog 25 #[.int .i64 f, .agg #[.int .i64 0, .int .i64 0, .int .i64 0, .int .i64 0]] W fun e w' => e = .returned (.agg #[.int .i64 0, .int .i64 0, .int .i64 0, .int .i64 0]) ∧ Below W.heap.size W w'))
    (C3 : Hid (∀ W, Calls Try.prog 19 #[.int .i64 f] W fun e w' => e = .returned (.bool false) ∧ Below W.heap.size W w')) :
    Calls Try.prog 7 #[.int .i64 f, .agg #[.int .i64 x0, .int .i64 x1, .int .i64 x2, .int .i64 x3]] w fun e w' => e = .returned (.bool true) ∧ Below w.heap.size w w' := by
  obtain ⟨a0, a1, a2, a3, BB⟩ := box4 w (.int .i64 x0) (.int .i64 x1) (.int .i64 x2) (.int .i64 x3) 25
  go_enter Try.func7, Try.ntmps7
  go_wp2_with (go_at_call 25; (with_reducible refine (C1.out _).mono ?_); rintro _ W1 ⟨rfl, B⟩; replace BB := bon BB B; clear B a0 a1 a2 a3)
  obtain ⟨_, v0, v1, v2, v3, BX⟩ := box4_on BB (.int .i64 0) (.int .i64 0) (.int .i64 0) (.int .i64 0) 25
  refine letter (S := fun U => VecAt U W1.heap.size 0 0 0 0 ∧ Below w.heap.size w U) ?_ ⟨⟨v0, v1, v2, v3⟩, BX⟩
  clear v0 v1 v2 v3 BX BB
  generalize W1.heap.size = vb
  rintro U ⟨⟨c0, c1, c2, c3⟩, BB⟩
  have k_c0 := cell_regrown c0
  have k_c1 := cell_regrown c1
  have k_c2 := cell_regrown c2
  have k_c3 := cell_regrown c3
  refine wp_region_quiet_below (by kernel_rfl) (by kernel_rfl) ?_
  repeat (first | go_big_quiet_step ((first | (go_at_call 25; exact Calls.regrown_of (C2.out _)))) | quiet_step ((first | (go_at_call 25; exact Calls.regrown_of (C2.out _)))))
  refine wpQuiet_nil ?_
  intro W hw'
  have B := below_regrown' hw'
  clear hw' k_c0 k_c1 k_c2 k_c3
  replace BB := bon BB B
  replace c0 := cell_below B c0
  replace c1 := cell_below B c1
  replace c2 := cell_below B c2
  replace c3 := cell_below B c3
  go_wp2_with (first
    | (go_at_call 19; (with_reducible refine (C3.out _).mono ?_); rintro _ W2 ⟨rfl, B⟩; replace c0 := cell_below B c0; replace c1 := cell_below B c1; replace c2 := cell_below B c2; replace c3 := cell_below B c3; replace BB := bon BB B; clear B)
    | (go_at_call 13; (with_reducible refine (texample_b _).mono ?_); rintro _ W9 ⟨rfl, B⟩; replace BB := bon BB B; clear B))
  go_ret
  exact ⟨rfl, BB⟩

theorem quantize_walk (f x0 x1 x2 x3 : Int) (w : World) :
    Calls Try.prog 7 #[.int .i64 f, .agg #[.int .i64 x0, .int .i64 x1, .int .i64 x2, .int .i64 x3]] w fun e w' => e = .returned (.bool true) ∧ Below w.heap.size w w' := by
  have c1 := fun W => tquant_b f x0 x1 x2 x3 W
  have hid := fun i => qnt_idem f x0 x1 x2 x3 i
  have hd : ∀ i, f ≤ 4 → 0 ≤ qnt f x0 x1 x2 x3 i ∧ qnt f x0 x1 x2 x3 i ≤ 65536 := fun i => dec_rng f (enc f x0 x1 x2 x3) i
  have hms : ∀ i, nsz f ≠ 0 → i < 4 → ncm f ≤ i → qnt f x0 x1 x2 x3 i = if i = 3 then 65536 else 0 := fun i h h1 h2 => dec_missing f (enc f x0 x1 x2 x3) i h (enc_len f x0 x1 x2 x3) h1 h2
  have hz : nsz f = 0 → ∀ i, qnt f x0 x1 x2 x3 i = 0 := fun h i => qnt_none h
  have c3 := fun W => tvalid_b f W
  have c4 := fun W => tcomps_b f W
  obtain ⟨q, hq⟩ : ∃ q, qnt f x0 x1 x2 x3 = q := ⟨_, rfl⟩
  have c2 := fun W => tquant_b f (q 0) (q 1) (q 2) (q 3) W
  rw [hq] at c1 hid hd hms hz
  rw [show qnt f (q 0) (q 1) (q 2) (q 3) = q from funext hid] at c2
  unfold GivesV at c1 c2
  by_cases h : nsz f = 0
  · rw [show isf f = false by unfold isf; rw [h]; rfl] at c3
    simp only [hz h] at c1 c2
    exact quantize_none f x0 x1 x2 x3 w (Lib.hid c1) (Lib.hid c2) (Lib.hid c3)
  · rw [show isf f = true by unfold isf; simp [h]] at c3
    have hn : ncm f ≤ 4 := by
      rcases fmt_cases f with rfl | rfl | rfl | rfl | rfl | rfl | hf
      all_goals first | decide | (rw [ncm_none hf]; omega)
    exact quantize_case f x0 x1 x2 x3 (q 0) (q 1) (q 2) (q 3) (ncm f) w hn (Lib.hid c1) (Lib.hid c2) (Lib.hid c3) (Lib.hid c4)
      (Lib.hid (hms 0 h (by omega))) (Lib.hid (hms 1 h (by omega))) (Lib.hid (hms 2 h (by omega))) (Lib.hid (hms 3 h (by omega))) (Lib.hid (hd 0)) (Lib.hid (hd 1)) (Lib.hid (hd 2)) (Lib.hid (hd 3))

end Go.Proofs.Ytlfgpdohaomnlaa
