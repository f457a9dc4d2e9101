/- The walk of SamplerLog2Bounds. -/
import Derived.Test.YtoipmldbjciinaaS5
namespace Go.Proofs.Ytoipmldbjciinaa
open Go.RowKit Go.Sort
set_option linter.unusedVariables false

set_option maxRecDepth 100000 in
set_option maxHeartbeats 4000000 in
theorem log2_walk_a (x y e : Int) (w : World) (hx : -9223372036854775808 ≤ x ∧ x ≤ 9223372036854775807) (hy : -9223372036854775808 ≤ y ∧ y ≤ 9223372036854775807) (h0 : y < x) (hXY : y ≤ x) :
    Calls Try.prog 7 #[.int .i64 x, .int .i64 y, .int .i64 e] w fun e w' => e = .returned (.bool true) ∧ Below w.heap.size w w' := by
  have BB := Below.refl w.heap.size w
  have hmax : ∀ (at_ : Array TypeId) (t : TypeId) (x y : Int) (w : World), (Builtin.max_ at_ t #[.int .i64 x, .int .i64 y]).run Try.prog w = .ok (.int .i64 (mx x y)) w := fun at_ t x y w => by simp [Builtin.max_, Builtin.max2, mx]
  have c1 := fun W => slog2_b y W
  have c2 := fun W => slog2_b x W
  obtain ⟨m, hm⟩ : ∃ m, mx 0 x = m := ⟨_, rfl⟩
  have hm0 : 0 ≤ m ∧ m ≤ 9223372036854775807 := by rw [← hm]; unfold mx; split <;> omega
  obtain ⟨q, hq2⟩ : ∃ q, m / 2 = q := ⟨_, rfl⟩
  have hq1 : m.tdiv 2 = q := by rw [Int.tdiv_eq_ediv_of_nonneg hm0.1]; exact hq2
  have gq : IntKind.i64.wrap q = q := IntWalk.i64_in _ (by omega)
  have gz : IntKind.i64.wrap (1099511627776 + q) = 1099511627776 + q := IntWalk.i64_in _ (by omega)
  have c5 := fun W => slog2_b (1099511627776 + q) W
  rw [log2v_high (x := 1099511627776 + q) (by omega)] at c5
  have C5 := Lib.hid c5
  have CE := Lib.hid (fun W => sexample_b W)
  have M0 : 0 ≤ m := hm0.1
  clear c5 hx hy hm0
  obtain ⟨a, ha⟩ : ∃ a, log2v y = a := ⟨_, rfl⟩
  obtain ⟨b, hb⟩ : ∃ b, log2v x = b := ⟨_, rfl⟩
  rw [ha] at c1
  rw [hb] at c2
  have C1 := Lib.hid c1
  have C2 := Lib.hid c2
  clear c1 c2
  have hE : (¬ 0 ≤ e) ∨ (0 ≤ e ∧ ¬ e ≤ 40) ∨ (0 ≤ e ∧ e ≤ 40) := by omega
  have hX : (¬ 1 ≤ y ∧ a = 0) ∨ (1 ≤ y ∧ ¬ y < 549755813888 ∧ ¬ b < a) ∨ (1 ≤ y ∧ y < 549755813888 ∧ ¬ b < a) := by
    by_cases h : 1 ≤ y
    · have := log2v_mono hXY h
      rw [ha, hb] at this
      omega
    · exact .inl ⟨h, by rw [← ha]; exact log2v_low (by omega)⟩
  have C4 : Hid (0 ≤ e → e ≤ 40 → ∀ W, Calls Try.prog 10 #[.int .i64 (pw e)] W fun x w' => x = .returned (.int .i64 ((e - 16) * 65536)) ∧ Below W.heap.size W w') := Lib.hid (fun h1 h2 W => by
    have h := slog2_b (pw e) W
    rw [log2v_in (pw_pos e) (pw_le e 40 h2), lg_pw h1 h2] at h
    exact h)
  have C3 : Hid (1 ≤ y → y < 549755813888 → (IntKind.i64.wrap (a + 65536) = a + 65536) ∧ (IntKind.i64.wrap (2 * y) = 2 * y) ∧ ∀ W, Calls Try.prog 10 #[.int .i64 (2 * y)] W fun x w' => x = .returned (.int .i64 (a + 65536)) ∧ Below W.heap.size W w') := Lib.hid (fun h1 h2 => by
    have hr := lg_rng h1 (by omega)
    have hbl := blen_rng h1 (by omega)
    have hl : a = lg y := by rw [← ha]; exact log2v_in h1 (by omega)
    refine ⟨IntWalk.i64_in _ (by omega), IntWalk.i64_in _ (by omega), fun W => ?_⟩
    have h := slog2_b (2 * y) W
    rw [log2v_in (by omega) (by omega), lg_two h1 (by omega), ← hl] at h
    exact h)
  clear ha hb hXY
  rcases hX with ⟨k1, rfl⟩ | ⟨k1, k2, k3⟩ | ⟨k1, k2, k3⟩
  · have t1 : y < 1 := by omega
    rcases hE with j1 | ⟨j1, j2⟩ | ⟨j1, j2⟩
    · clear C3 C4
      go_enter Try.func7, Try.ntmps7
      go_wp2_with (first | (go_at_call 10; (with_reducible refine (C1.out _).mono ?_); rintro _ V3 ⟨rfl, B⟩; replace BB := bon BB B; clear B) | (go_at_call 10; (with_reducible refine (C2.out _).mono ?_); rintro _ V3 ⟨rfl, B⟩; replace BB := bon BB B; clear B) | (go_at_call 10; (with_reducible refine (C5.out _).mono ?_); rintro _ V3 ⟨rfl, B⟩; replace BB := bon BB B; clear B) | (go_at_call 14; (with_reducible refine (CE.out _).mono ?_); rintro _ V3 ⟨rfl, B⟩; replace BB := bon BB B; clear B))
      go_ret
      exact ⟨rfl, BB⟩
    · clear C3 C4
      go_enter Try.func7, Try.ntmps7
      go_wp2_with (first | (go_at_call 10; (with_reducible refine (C1.out _).mono ?_); rintro _ V3 ⟨rfl, B⟩; replace BB := bon BB B; clear B) | (go_at_call 10; (with_reducible refine (C2.out _).mono ?_); rintro _ V3 ⟨rfl, B⟩; replace BB := bon BB B; clear B) | (go_at_call 10; (with_reducible refine (C5.out _).mono ?_); rintro _ V3 ⟨rfl, B⟩; replace BB := bon BB B; clear B) | (go_at_call 14; (with_reducible refine (CE.out _).mono ?_); rintro _ V3 ⟨rfl, B⟩; replace BB := bon BB B; clear B))
      go_ret
      exact ⟨rfl, BB⟩
    · have c4 := C4.out j1 j2
      have GE : Hid (wrap64 (2 ^ min e.toNat 64) = pw e) := Lib.hid (by rw [show min e.toNat 64 = e.toNat by omega]; exact pw_wrap e (by omega))
      have GE2 : Hid (wrap64 (2 ^ e.toNat) = pw e) := Lib.hid (pw_wrap e (by omega))
      have GE3 : Hid (IntKind.i64.wrap (2 ^ e.toNat) = pw e) := Lib.hid (pw_i64 e (by omega))
      have ge1 : IntKind.i64.wrap (e - 16) = e - 16 := IntWalk.i64_in _ (by omega)
      have ge2 : IntKind.i64.wrap ((e - 16) * 65536) = (e - 16) * 65536 := IntWalk.i64_in _ (by omega)
      have ge3 : ¬ e < 0 := by omega
      have D4 := Lib.hid c4
      clear c4
      clear C3 C4
      go_enter Try.func7, Try.ntmps7
      go_wp2_with (first | (go_at_call 10; (with_reducible refine (C1.out _).mono ?_); rintro _ V3 ⟨rfl, B⟩; replace BB := bon BB B; clear B) | (go_at_call 10; (with_reducible refine (C2.out _).mono ?_); rintro _ V3 ⟨rfl, B⟩; replace BB := bon BB B; clear B) | (go_at_call 10; (with_reducible refine (C5.out _).mono ?_); rintro _ V3 ⟨rfl, B⟩; replace BB := bon BB B; clear B) | (go_at_call 14; (with_reducible refine (CE.out _).mono ?_); rintro _ V3 ⟨rfl, B⟩; replace BB := bon BB B; clear B) | (go_at_call 10; (first | rw [GE.out] | rw [GE2.out] | rw [GE3.out]); (with_reducible refine (D4.out _).mono ?_); rintro _ V3 ⟨rfl, B⟩; replace BB := bon BB B; clear B))
      go_ret
      exact ⟨rfl, BB⟩
  · have t1 : ¬ y < 1 := by omega
    rcases hE with j1 | ⟨j1, j2⟩ | ⟨j1, j2⟩
    · clear C3 C4
      go_enter Try.func7, Try.ntmps7
      go_wp2_with (first | (go_at_call 10; (with_reducible refine (C1.out _).mono ?_); rintro _ V3 ⟨rfl, B⟩; replace BB := bon BB B; clear B) | (go_at_call 10; (with_reducible refine (C2.out _).mono ?_); rintro _ V3 ⟨rfl, B⟩; replace BB := bon BB B; clear B) | (go_at_call 10; (with_reducible refine (C5.out _).mono ?_); rintro _ V3 ⟨rfl, B⟩; replace BB := bon BB B; clear B) | (go_at_call 14; (with_reducible refine (CE.out _).mono ?_); rintro _ V3 ⟨rfl, B⟩; replace BB := bon BB B; clear B))
      go_ret
      exact ⟨rfl, BB⟩
    · clear C3 C4
      go_enter Try.func7, Try.ntmps7
      go_wp2_with (first | (go_at_call 10; (with_reducible refine (C1.out _).mono ?_); rintro _ V3 ⟨rfl, B⟩; replace BB := bon BB B; clear B) | (go_at_call 10; (with_reducible refine (C2.out _).mono ?_); rintro _ V3 ⟨rfl, B⟩; replace BB := bon BB B; clear B) | (go_at_call 10; (with_reducible refine (C5.out _).mono ?_); rintro _ V3 ⟨rfl, B⟩; replace BB := bon BB B; clear B) | (go_at_call 14; (with_reducible refine (CE.out _).mono ?_); rintro _ V3 ⟨rfl, B⟩; replace BB := bon BB B; clear B))
      go_ret
      exact ⟨rfl, BB⟩
    · have c4 := C4.out j1 j2
      have GE : Hid (wrap64 (2 ^ min e.toNat 64) = pw e) := Lib.hid (by rw [show min e.toNat 64 = e.toNat by omega]; exact pw_wrap e (by omega))
      have GE2 : Hid (wrap64 (2 ^ e.toNat) = pw e) := Lib.hid (pw_wrap e (by omega))
      have GE3 : Hid (IntKind.i64.wrap (2 ^ e.toNat) = pw e) := Lib.hid (pw_i64 e (by omega))
      have ge1 : IntKind.i64.wrap (e - 16) = e - 16 := IntWalk.i64_in _ (by omega)
      have ge2 : IntKind.i64.wrap ((e - 16) * 65536) = (e - 16) * 65536 := IntWalk.i64_in _ (by omega)
      have ge3 : ¬ e < 0 := by omega
      have D4 := Lib.hid c4
      clear c4
      clear C3 C4
      go_enter Try.func7, Try.ntmps7
      go_wp2_with (first | (go_at_call 10; (with_reducible refine (C1.out _).mono ?_); rintro _ V3 ⟨rfl, B⟩; replace BB := bon BB B; clear B) | (go_at_call 10; (with_reducible refine (C2.out _).mono ?_); rintro _ V3 ⟨rfl, B⟩; replace BB := bon BB B; clear B) | (go_at_call 10; (with_reducible refine (C5.out _).mono ?_); rintro _ V3 ⟨rfl, B⟩; replace BB := bon BB B; clear B) | (go_at_call 14; (with_reducible refine (CE.out _).mono ?_); rintro _ V3 ⟨rfl, B⟩; replace BB := bon BB B; clear B) | (go_at_call 10; (first | rw [GE.out] | rw [GE2.out] | rw [GE3.out]); (with_reducible refine (D4.out _).mono ?_); rintro _ V3 ⟨rfl, B⟩; replace BB := bon BB B; clear B))
      go_ret
      exact ⟨rfl, BB⟩
  · have t1 : ¬ y < 1 := by omega
    obtain ⟨g1, g2, c3⟩ := C3.out k1 k2
    have D3 := Lib.hid c3
    clear c3
    rcases hE with j1 | ⟨j1, j2⟩ | ⟨j1, j2⟩
    · clear C3 C4
      go_enter Try.func7, Try.ntmps7
      go_wp2_with (first | (go_at_call 10; (with_reducible refine (C1.out _).mono ?_); rintro _ V3 ⟨rfl, B⟩; replace BB := bon BB B; clear B) | (go_at_call 10; (with_reducible refine (C2.out _).mono ?_); rintro _ V3 ⟨rfl, B⟩; replace BB := bon BB B; clear B) | (go_at_call 10; (with_reducible refine (C5.out _).mono ?_); rintro _ V3 ⟨rfl, B⟩; replace BB := bon BB B; clear B) | (go_at_call 14; (with_reducible refine (CE.out _).mono ?_); rintro _ V3 ⟨rfl, B⟩; replace BB := bon BB B; clear B) | (go_at_call 10; (with_reducible refine (D3.out _).mono ?_); rintro _ V3 ⟨rfl, B⟩; replace BB := bon BB B; clear B))
      go_ret
      exact ⟨rfl, BB⟩
    · clear C3 C4
      go_enter Try.func7, Try.ntmps7
      go_wp2_with (first | (go_at_call 10; (with_reducible refine (C1.out _).mono ?_); rintro _ V3 ⟨rfl, B⟩; replace BB := bon BB B; clear B) | (go_at_call 10; (with_reducible refine (C2.out _).mono ?_); rintro _ V3 ⟨rfl, B⟩; replace BB := bon BB B; clear B) | (go_at_call 10; (with_reducible refine (C5.out _).mono ?_); rintro _ V3 ⟨rfl, B⟩; replace BB := bon BB B; clear B) | (go_at_call 14; (with_reducible refine (CE.out _).mono ?_); rintro _ V3 ⟨rfl, B⟩; replace BB := bon BB B; clear B) | (go_at_call 10; (with_reducible refine (D3.out _).mono ?_); rintro _ V3 ⟨rfl, B⟩; replace BB := bon BB B; clear B))
      go_ret
      exact ⟨rfl, BB⟩
    · have c4 := C4.out j1 j2
      have GE : Hid (wrap64 (2 ^ min e.toNat 64) = pw e) := Lib.hid (by rw [show min e.toNat 64 = e.toNat by omega]; exact pw_wrap e (by omega))
      have GE2 : Hid (wrap64 (2 ^ e.toNat) = pw e) := Lib.hid (pw_wrap e (by omega))
      have GE3 : Hid (IntKind.i64.wrap (2 ^ e.toNat) = pw e) := Lib.hid (pw_i64 e (by omega))
      have ge1 : IntKind.i64.wrap (e - 16) = e - 16 := IntWalk.i64_in _ (by omega)
      have ge2 : IntKind.i64.wrap ((e - 16) * 65536) = (e - 16) * 65536 := IntWalk.i64_in _ (by omega)
      have ge3 : ¬ e < 0 := by omega
      have D4 := Lib.hid c4
      clear c4
      clear C3 C4
      go_enter Try.func7, Try.ntmps7
      go_wp2_with (first | (go_at_call 10; (with_reducible refine (C1.out _).mono ?_); rintro _ V3 ⟨rfl, B⟩; replace BB := bon BB B; clear B) | (go_at_call 10; (with_reducible refine (C2.out _).mono ?_); rintro _ V3 ⟨rfl, B⟩; replace BB := bon BB B; clear B) | (go_at_call 10; (with_reducible refine (C5.out _).mono ?_); rintro _ V3 ⟨rfl, B⟩; replace BB := bon BB B; clear B) | (go_at_call 14; (with_reducible refine (CE.out _).mono ?_); rintro _ V3 ⟨rfl, B⟩; replace BB := bon BB B; clear B) | (go_at_call 10; (with_reducible refine (D3.out _).mono ?_); rintro _ V3 ⟨rfl, B⟩; replace BB := bon BB B; clear B) | (go_at_call 10; (first | rw [GE.out] | rw [GE2.out] | rw [GE3.out]); (with_reducible refine (D4.out _).mono ?_); rintro _ V3 ⟨rfl, B⟩; replace BB := bon BB B; clear B))
      go_ret
      exact ⟨rfl, BB⟩

set_option maxRecDepth 100000 in
set_option maxHeartbeats 4000000 in
theorem log2_walk_b (x y e : Int) (w : World) (hx : -9223372036854775808 ≤ x ∧ x ≤ 9223372036854775807) (hy : -9223372036854775808 ≤ y ∧ y ≤ 9223372036854775807) (h0 : ¬ y < x) (hXY : x ≤ y) :
    Calls Try.prog 7 #[.int .i64 x, .int .i64 y, .int .i64 e] w fun e w' => e = .returned (.bool true) ∧ Below w.heap.size w w' := by
  have BB := Below.refl w.heap.size w
  have hmax : ∀ (at_ : Array TypeId) (t : TypeId) (x y : Int) (w : World), (Builtin.max_ at_ t #[.int .i64 x, .int .i64 y]).run Try.prog w = .ok (.int .i64 (mx x y)) w := fun at_ t x y w => by simp [Builtin.max_, Builtin.max2, mx]
  have c1 := fun W => slog2_b x W
  have c2 := fun W => slog2_b y W
  obtain ⟨m, hm⟩ : ∃ m, mx 0 y = m := ⟨_, rfl⟩
  have hm0 : 0 ≤ m ∧ m ≤ 9223372036854775807 := by rw [← hm]; unfold mx; split <;> omega
  obtain ⟨q, hq2⟩ : ∃ q, m / 2 = q := ⟨_, rfl⟩
  have hq1 : m.tdiv 2 = q := by rw [Int.tdiv_eq_ediv_of_nonneg hm0.1]; exact hq2
  have gq : IntKind.i64.wrap q = q := IntWalk.i64_in _ (by omega)
  have gz : IntKind.i64.wrap (1099511627776 + q) = 1099511627776 + q := IntWalk.i64_in _ (by omega)
  have c5 := fun W => slog2_b (1099511627776 + q) W
  rw [log2v_high (x := 1099511627776 + q) (by omega)] at c5
  have C5 := Lib.hid c5
  have CE := Lib.hid (fun W => sexample_b W)
  have M0 : 0 ≤ m := hm0.1
  clear c5 hx hy hm0
  obtain ⟨a, ha⟩ : ∃ a, log2v x = a := ⟨_, rfl⟩
  obtain ⟨b, hb⟩ : ∃ b, log2v y = b := ⟨_, rfl⟩
  rw [ha] at c1
  rw [hb] at c2
  have C1 := Lib.hid c1
  have C2 := Lib.hid c2
  clear c1 c2
  have hE : (¬ 0 ≤ e) ∨ (0 ≤ e ∧ ¬ e ≤ 40) ∨ (0 ≤ e ∧ e ≤ 40) := by omega
  have hX : (¬ 1 ≤ x ∧ a = 0) ∨ (1 ≤ x ∧ ¬ x < 549755813888 ∧ ¬ b < a) ∨ (1 ≤ x ∧ x < 549755813888 ∧ ¬ b < a) := by
    by_cases h : 1 ≤ x
    · have := log2v_mono hXY h
      rw [ha, hb] at this
      omega
    · exact .inl ⟨h, by rw [← ha]; exact log2v_low (by omega)⟩
  have C4 : Hid (0 ≤ e → e ≤ 40 → ∀ W, Calls Try.prog 10 #[.int .i64 (pw e)] W fun x w' => x = .returned (.int .i64 ((e - 16) * 65536)) ∧ Below W.heap.size W w') := Lib.hid (fun h1 h2 W => by
    have h := slog2_b (pw e) W
    rw [log2v_in (pw_pos e) (pw_le e 40 h2), lg_pw h1 h2] at h
    exact h)
  have C3 : Hid (1 ≤ x → x < 549755813888 → (IntKind.i64.wrap (a + 65536) = a + 65536) ∧ (IntKind.i64.wrap (2 * x) = 2 * x) ∧ ∀ W, Calls Try.prog 10 #[.int .i64 (2 * x)] W fun x w' => x = .returned (.int .i64 (a + 65536)) ∧ Below W.heap.size W w') := Lib.hid (fun h1 h2 => by
    have hr := lg_rng h1 (by omega)
    have hbl := blen_rng h1 (by omega)
    have hl : a = lg x := by rw [← ha]; exact log2v_in h1 (by omega)
    refine ⟨IntWalk.i64_in _ (by omega), IntWalk.i64_in _ (by omega), fun W => ?_⟩
    have h := slog2_b (2 * x) W
    rw [log2v_in (by omega) (by omega), lg_two h1 (by omega), ← hl] at h
    exact h)
  clear ha hb hXY
  rcases hX with ⟨k1, rfl⟩ | ⟨k1, k2, k3⟩ | ⟨k1, k2, k3⟩
  · have t1 : x < 1 := by omega
    rcases hE with j1 | ⟨j1, j2⟩ | ⟨j1, j2⟩
    · clear C3 C4
      go_enter Try.func7, Try.ntmps7
      go_wp2_with (first | (go_at_call 10; (with_reducible refine (C1.out _).mono ?_); rintro _ V3 ⟨rfl, B⟩; replace BB := bon BB B; clear B) | (go_at_call 10; (with_reducible refine (C2.out _).mono ?_); rintro _ V3 ⟨rfl, B⟩; replace BB := bon BB B; clear B) | (go_at_call 10; (with_reducible refine (C5.out _).mono ?_); rintro _ V3 ⟨rfl, B⟩; replace BB := bon BB B; clear B) | (go_at_call 14; (with_reducible refine (CE.out _).mono ?_); rintro _ V3 ⟨rfl, B⟩; replace BB := bon BB B; clear B))
      go_ret
      exact ⟨rfl, BB⟩
    · clear C3 C4
      go_enter Try.func7, Try.ntmps7
      go_wp2_with (first | (go_at_call 10; (with_reducible refine (C1.out _).mono ?_); rintro _ V3 ⟨rfl, B⟩; replace BB := bon BB B; clear B) | (go_at_call 10; (with_reducible refine (C2.out _).mono ?_); rintro _ V3 ⟨rfl, B⟩; replace BB := bon BB B; clear B) | (go_at_call 10; (with_reducible refine (C5.out _).mono ?_); rintro _ V3 ⟨rfl, B⟩; replace BB := bon BB B; clear B) | (go_at_call 14; (with_reducible refine (CE.out _).mono ?_); rintro _ V3 ⟨rfl, B⟩; replace BB := bon BB B; clear B))
      go_ret
      exact ⟨rfl, BB⟩
    · have c4 := C4.out j1 j2
      have GE : Hid (wrap64 (2 ^ min e.toNat 64) = pw e) := Lib.hid (by rw [show min e.toNat 64 = e.toNat by omega]; exact pw_wrap e (by omega))
      have GE2 : Hid (wrap64 (2 ^ e.toNat) = pw e) := Lib.hid (pw_wrap e (by omega))
      have GE3 : Hid (IntKind.i64.wrap (2 ^ e.toNat) = pw e) := Lib.hid (pw_i64 e (by omega))
      have ge1 : IntKind.i64.wrap (e - 16) = e - 16 := IntWalk.i64_in _ (by omega)
      have ge2 : IntKind.i64.wrap ((e - 16) * 65536) = (e - 16) * 65536 := IntWalk.i64_in _ (by omega)
      have ge3 : ¬ e < 0 := by omega
      have D4 := Lib.hid c4
      clear c4
      clear C3 C4
      go_enter Try.func7, Try.ntmps7
      go_wp2_with (first | (go_at_call 10; (with_reducible refine (C1.out _).mono ?_); rintro _ V3 ⟨rfl, B⟩; replace BB := bon BB B; clear B) | (go_at_call 10; (with_reducible refine (C2.out _).mono ?_); rintro _ V3 ⟨rfl, B⟩; replace BB := bon BB B; clear B) | (go_at_call 10; (with_reducible refine (C5.out _).mono ?_); rintro _ V3 ⟨rfl, B⟩; replace BB := bon BB B; clear B) | (go_at_call 14; (with_reducible refine (CE.out _).mono ?_); rintro _ V3 ⟨rfl, B⟩; replace BB := bon BB B; clear B) | (go_at_call 10; (first | rw [GE.out] | rw [GE2.out] | rw [GE3.out]); (with_reducible refine (D4.out _).mono ?_); rintro _ V3 ⟨rfl, B⟩; replace BB := bon BB B; clear B))
      go_ret
      exact ⟨rfl, BB⟩
  · have t1 : ¬ x < 1 := by omega
    rcases hE with j1 | ⟨j1, j2⟩ | ⟨j1, j2⟩
    · clear C3 C4
      go_enter Try.func7, Try.ntmps7
      go_wp2_with (first | (go_at_call 10; (with_reducible refine (C1.out _).mono ?_); rintro _ V3 ⟨rfl, B⟩; replace BB := bon BB B; clear B) | (go_at_call 10; (with_reducible refine (C2.out _).mono ?_); rintro _ V3 ⟨rfl, B⟩; replace BB := bon BB B; clear B) | (go_at_call 10; (with_reducible refine (C5.out _).mono ?_); rintro _ V3 ⟨rfl, B⟩; replace BB := bon BB B; clear B) | (go_at_call 14; (with_reducible refine (CE.out _).mono ?_); rintro _ V3 ⟨rfl, B⟩; replace BB := bon BB B; clear B))
      go_ret
      exact ⟨rfl, BB⟩
    · clear C3 C4
      go_enter Try.func7, Try.ntmps7
      go_wp2_with (first | (go_at_call 10; (with_reducible refine (C1.out _).mono ?_); rintro _ V3 ⟨rfl, B⟩; replace BB := bon BB B; clear B) | (go_at_call 10; (with_reducible refine (C2.out _).mono ?_); rintro _ V3 ⟨rfl, B⟩; replace BB := bon BB B; clear B) | (go_at_call 10; (with_reducible refine (C5.out _).mono ?_); rintro _ V3 ⟨rfl, B⟩; replace BB := bon BB B; clear B) | (go_at_call 14; (with_reducible refine (CE.out _).mono ?_); rintro _ V3 ⟨rfl, B⟩; replace BB := bon BB B; clear B))
      go_ret
      exact ⟨rfl, BB⟩
    · have c4 := C4.out j1 j2
      have GE : Hid (wrap64 (2 ^ min e.toNat 64) = pw e) := Lib.hid (by rw [show min e.toNat 64 = e.toNat by omega]; exact pw_wrap e (by omega))
      have GE2 : Hid (wrap64 (2 ^ e.toNat) = pw e) := Lib.hid (pw_wrap e (by omega))
      have GE3 : Hid (IntKind.i64.wrap (2 ^ e.toNat) = pw e) := Lib.hid (pw_i64 e (by omega))
      have ge1 : IntKind.i64.wrap (e - 16) = e - 16 := IntWalk.i64_in _ (by omega)
      have ge2 : IntKind.i64.wrap ((e - 16) * 65536) = (e - 16) * 65536 := IntWalk.i64_in _ (by omega)
      have ge3 : ¬ e < 0 := by omega
      have D4 := Lib.hid c4
      clear c4
      clear C3 C4
      go_enter Try.func7, Try.ntmps7
      go_wp2_with (first | (go_at_call 10; (with_reducible refine (C1.out _).mono ?_); rintro _ V3 ⟨rfl, B⟩; replace BB := bon BB B; clear B) | (go_at_call 10; (with_reducible refine (C2.out _).mono ?_); rintro _ V3 ⟨rfl, B⟩; replace BB := bon BB B; clear B) | (go_at_call 10; (with_reducible refine (C5.out _).mono ?_); rintro _ V3 ⟨rfl, B⟩; replace BB := bon BB B; clear B) | (go_at_call 14; (with_reducible refine (CE.out _).mono ?_); rintro _ V3 ⟨rfl, B⟩; replace BB := bon BB B; clear B) | (go_at_call 10; (first | rw [GE.out] | rw [GE2.out] | rw [GE3.out]); (with_reducible refine (D4.out _).mono ?_); rintro _ V3 ⟨rfl, B⟩; replace BB := bon BB B; clear B))
      go_ret
      exact ⟨rfl, BB⟩
  · have t1 : ¬ x < 1 := by omega
    obtain ⟨g1, g2, c3⟩ := C3.out k1 k2
    have D3 := Lib.hid c3
    clear c3
    rcases hE with j1 | ⟨j1, j2⟩ | ⟨j1, j2⟩
    · clear C3 C4
      go_enter Try.func7, Try.ntmps7
      go_wp2_with (first | (go_at_call 10; (with_reducible refine (C1.out _).mono ?_); rintro _ V3 ⟨rfl, B⟩; replace BB := bon BB B; clear B) | (go_at_call 10; (with_reducible refine (C2.out _).mono ?_); rintro _ V3 ⟨rfl, B⟩; replace BB := bon BB B; clear B) | (go_at_call 10; (with_reducible refine (C5.out _).mono ?_); rintro _ V3 ⟨rfl, B⟩; replace BB := bon BB B; clear B) | (go_at_call 14; (with_reducible refine (CE.out _).mono ?_); rintro _ V3 ⟨rfl, B⟩; replace BB := bon BB B; clear B) | (go_at_call 10; (with_reducible refine (D3.out _).mono ?_); rintro _ V3 ⟨rfl, B⟩; replace BB := bon BB B; clear B))
      go_ret
      exact ⟨rfl, BB⟩
    · clear C3 C4
      go_enter Try.func7, Try.ntmps7
      go_wp2_with (first | (go_at_call 10; (with_reducible refine (C1.out _).mono ?_); rintro _ V3 ⟨rfl, B⟩; replace BB := bon BB B; clear B) | (go_at_call 10; (with_reducible refine (C2.out _).mono ?_); rintro _ V3 ⟨rfl, B⟩; replace BB := bon BB B; clear B) | (go_at_call 10; (with_reducible refine (C5.out _).mono ?_); rintro _ V3 ⟨rfl, B⟩; replace BB := bon BB B; clear B) | (go_at_call 14; (with_reducible refine (CE.out _).mono ?_); rintro _ V3 ⟨rfl, B⟩; replace BB := bon BB B; clear B) | (go_at_call 10; (with_reducible refine (D3.out _).mono ?_); rintro _ V3 ⟨rfl, B⟩; replace BB := bon BB B; clear B))
      go_ret
      exact ⟨rfl, BB⟩
    · have c4 := C4.out j1 j2
      have GE : Hid (wrap64 (2 ^ min e.toNat 64) = pw e) := Lib.hid (by rw [show min e.toNat 64 = e.toNat by omega]; exact pw_wrap e (by omega))
      have GE2 : Hid (wrap64 (2 ^ e.toNat) = pw e) := Lib.hid (pw_wrap e (by omega))
      have GE3 : Hid (IntKind.i64.wrap (2 ^ e.toNat) = pw e) := Lib.hid (pw_i64 e (by omega))
      have ge1 : IntKind.i64.wrap (e - 16) = e - 16 := IntWalk.i64_in _ (by omega)
      have ge2 : IntKind.i64.wrap ((e - 16) * 65536) = (e - 16) * 65536 := IntWalk.i64_in _ (by omega)
      have ge3 : ¬ e < 0 := by omega
      have D4 := Lib.hid c4
      clear c4
      clear C3 C4
      go_enter Try.func7, Try.ntmps7
      go_wp2_with (first | (go_at_call 10; (with_reducible refine (C1.out _).mono ?_); rintro _ V3 ⟨rfl, B⟩; replace BB := bon BB B; clear B) | (go_at_call 10; (with_reducible refine (C2.out _).mono ?_); rintro _ V3 ⟨rfl, B⟩; replace BB := bon BB B; clear B) | (go_at_call 10; (with_reducible refine (C5.out _).mono ?_); rintro _ V3 ⟨rfl, B⟩; replace BB := bon BB B; clear B) | (go_at_call 14; (with_reducible refine (CE.out _).mono ?_); rintro _ V3 ⟨rfl, B⟩; replace BB := bon BB B; clear B) | (go_at_call 10; (with_reducible refine (D3.out _).mono ?_); rintro _ V3 ⟨rfl, B⟩; replace BB := bon BB B; clear B) | (go_at_call 10; (first | rw [GE.out] | rw [GE2.out] | rw [GE3.out]); (with_reducible refine (D4.out _).mono ?_); rintro _ V3 ⟨rfl, B⟩; replace BB := bon BB B; clear B))
      go_ret
      exact ⟨rfl, BB⟩

theorem log2_walk (x y e : Int) (w : World) (hx : -9223372036854775808 ≤ x ∧ x ≤ 9223372036854775807) (hy : -9223372036854775808 ≤ y ∧ y ≤ 9223372036854775807) :
    Calls Try.prog 7 #[.int .i64 x, .int .i64 y, .int .i64 e] w fun e w' => e = .returned (.bool true) ∧ Below w.heap.size w w' := by
  by_cases h : y < x
  · exact log2_walk_a x y e w hx hy h (by omega)
  · exact log2_walk_b x y e w hx hy h (by omega)

end Go.Proofs.Ytoipmldbjciinaa
