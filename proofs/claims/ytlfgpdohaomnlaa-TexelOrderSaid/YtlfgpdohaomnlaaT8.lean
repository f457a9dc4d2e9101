/- The walks of TexelOrder, TexelRoundTrip, TexelQuantize. -/
import Derived.Test.YtlfgpdohaomnlaaT7
namespace Go.Proofs.Ytlfgpdohaomnlaa
open Go.RowKit Go.Sort

theorem imin_le (x y : Int) : imin x y ≤ imax x y := by unfold imin imax; split <;> split <;> omega

set_option maxRecDepth 100000 in
set_option maxHeartbeats 1000000 in
theorem order_walk (x y b : Int) (w : World) : Calls Try.prog 8 #[.int .i64 x, .int .i64 y, .int .i64 b] w fun e w' => e = .returned (.bool true) ∧ Below w.heap.size w w' := by
  have BB : Below w.heap.size w w := Below.refl _ _
  by_cases h : 1 ≤ b ∧ b ≤ 16
  · have hmin : ∀ (ts : Array TypeId) (t : TypeId) (x y : Int) (w : World), (Builtin.min_ ts t #[.int .i64 x, .int .i64 y]).run Try.prog w = .ok (.int .i64 (imin x y)) w := fun ts t x y w => by simp [Builtin.min_, Builtin.min2, imin]
    have hmax : ∀ (ts : Array TypeId) (t : TypeId) (x y : Int) (w : World), (Builtin.max_ ts t #[.int .i64 x, .int .i64 y]).run Try.prog w = .ok (.int .i64 (imax x y)) w := fun ts t x y w => by simp [Builtin.max_, Builtin.max2, imax]
    have hp := pw_16b h
    have h1 := pw_i64 b (by omega)
    have c1 := fun W => tunorm_b (imin x y) b W
    have c2 := fun W => tunorm_b (imax x y) b W
    have c3 := fun W => tfromu_b (imin x y) b W
    have c4 := fun W => tfromu_b (imax x y) b W
    have c5 := fun W => tunorm_b 0 b W
    have c6 := fun W => tunorm_b 65536 b W
    have c7 := fun W => tfromu_b 0 b W
    have c8 := fun W => tfromu_b (pw b - 1) b W
    have c9 := fun W => tfromu_b (imin (imax x 0) (pw b - 1)) b W
    have c10 := fun W => tunorm_b (fromv (imin (imax x 0) (pw b - 1)) b) b W
    have m1 := unv_mono (b := b) (imin_le x y)
    have m2 := fromv_mono (b := b) (imin_le x y)
    have hn : 0 ≤ imin (imax x 0) (pw b - 1) ∧ imin (imax x 0) (pw b - 1) ≤ pw b - 1 := by unfold imin imax; split <;> split <;> omega
    rw [unv_zero] at c5
    rw [unv_one h] at c6
    rw [fromv_zero] at c7
    rw [fromv_most h] at c8
    rw [unv_fromv h hn.1 hn.2] at c10
    obtain ⟨p, hpe⟩ : ∃ p, pw b = p := ⟨_, rfl⟩
    rw [hpe] at hp h1 c6 c8 c9 c10
    obtain ⟨u1, e1⟩ : ∃ u, unv (imin x y) b = u := ⟨_, rfl⟩
    obtain ⟨u2, e2⟩ : ∃ u, unv (imax x y) b = u := ⟨_, rfl⟩
    obtain ⟨u3, e3⟩ : ∃ u, fromv (imin x y) b = u := ⟨_, rfl⟩
    obtain ⟨u4, e4⟩ : ∃ u, fromv (imax x y) b = u := ⟨_, rfl⟩
    obtain ⟨u5, e5⟩ : ∃ u, fromv (imin (imax x 0) (p - 1)) b = u := ⟨_, rfl⟩
    rw [e1] at c1 m1
    rw [e2] at c2 m1
    rw [e3] at c3 m2
    rw [e4] at c4 m2
    rw [e5] at c9 c10
    have C1 := Lib.hid c1
    have C2 := Lib.hid c2
    have C3 := Lib.hid c3
    have C4 := Lib.hid c4
    have C5 := Lib.hid c5
    have C6 := Lib.hid c6
    have C7 := Lib.hid c7
    have C8 := Lib.hid c8
    have C9 := Lib.hid c9
    have C10 := Lib.hid c10
    obtain ⟨p0, p1⟩ := hp
    obtain ⟨b0, b1⟩ := h
    clear c1 c2 c3 c4 c5 c6 c7 c8 c9 c10 e1 e2 e3 e4 e5 hpe hn
    go_enter Try.func8, Try.ntmps8
    go_wp2_with (first
      | (go_at_call 14; (with_reducible refine (C1.out _).mono ?_); rintro _ W1 ⟨rfl, B⟩; replace BB := bon BB B; clear B)
      | (go_at_call 14; (with_reducible refine (C2.out _).mono ?_); rintro _ W1 ⟨rfl, B⟩; replace BB := bon BB B; clear B)
      | (go_at_call 14; (with_reducible refine (C5.out _).mono ?_); rintro _ W1 ⟨rfl, B⟩; replace BB := bon BB B; clear B)
      | (go_at_call 14; (with_reducible refine (C6.out _).mono ?_); rintro _ W1 ⟨rfl, B⟩; replace BB := bon BB B; clear B)
      | (go_at_call 14; (with_reducible refine (C10.out _).mono ?_); rintro _ W1 ⟨rfl, B⟩; replace BB := bon BB B; clear B)
      | (go_at_call 16; (with_reducible refine (C3.out _).mono ?_); rintro _ W1 ⟨rfl, B⟩; replace BB := bon BB B; clear B)
      | (go_at_call 16; (with_reducible refine (C4.out _).mono ?_); rintro _ W1 ⟨rfl, B⟩; replace BB := bon BB B; clear B)
      | (go_at_call 16; (with_reducible refine (C7.out _).mono ?_); rintro _ W1 ⟨rfl, B⟩; replace BB := bon BB B; clear B)
      | (go_at_call 16; (with_reducible refine (C8.out _).mono ?_); rintro _ W1 ⟨rfl, B⟩; replace BB := bon BB B; clear B)
      | (go_at_call 16; (with_reducible refine (C9.out _).mono ?_); rintro _ W1 ⟨rfl, B⟩; replace BB := bon BB B; clear B)
      | (go_at_call 13; (with_reducible refine (texample_b _).mono ?_); rintro _ W1 ⟨rfl, B⟩; replace BB := bon BB B; clear B))
    go_ret
    exact ⟨rfl, BB⟩
  · have c1 := fun W => tunorm_b x b W
    have c2 := fun W => tfromu_b y b W
    rw [unv_out h] at c1
    rw [fromv_out h] at c2
    have C1 := Lib.hid c1
    have C2 := Lib.hid c2
    clear c1 c2
    rcases (show b < 1 ∨ (1 ≤ b ∧ 16 < b) by omega) with h1 | ⟨h1, h2⟩
    all_goals
      clear h
      go_enter Try.func8, Try.ntmps8
      go_wp2_with (first
        | (go_at_call 14; (with_reducible refine (C1.out _).mono ?_); rintro _ W1 ⟨rfl, B⟩; replace BB := bon BB B; clear B)
        | (go_at_call 16; (with_reducible refine (C2.out _).mono ?_); rintro _ W1 ⟨rfl, B⟩; replace BB := bon BB B; clear B)
        | (go_at_call 13; (with_reducible refine (texample_b _).mono ?_); rintro _ W1 ⟨rfl, B⟩; replace BB := bon BB B; clear B))
      go_ret
      exact ⟨rfl, BB⟩

/-- RoundTrip's second half, whatever the format: a world in which the color lies boxed. -/
theorem enc_dec_of {f : Int} {l : List Int} (hf : f = 1 ∨ f = 2 ∨ f = 3 ∨ f = 4) (hl : l.length = nsz f) (hr : ∀ x ∈ l, (0 : Int) ≤ x ∧ x ≤ 255) {y : Nat → Int} (hy : dec f l = y) : enc f (y 0) (y 1) (y 2) (y 3) = l := by
  rw [← hy]; exact enc_dec f l hf hl hr

set_option maxRecDepth 100000 in
set_option maxHeartbeats 2000000 in
theorem roundTrip_walk (f : Int) (A : Option Addr) (n c : Nat) (l : List Int) (x0 x1 x2 x3 : Int) (w : World) (R : Rd w w.heap.size .u8 A n l) (hc : n ≤ c) (hn : n ≤ 9223372036854775807) :
    Calls Try.prog 3 #[.int .i64 f, .slice A n c, .agg #[.int .i64 x0, .int .i64 x1, .int .i64 x2, .int .i64 x3]] w fun e w' => e = .returned (.bool true) ∧ Below w.heap.size w w' := by
  obtain ⟨a0, a1, a2, a3, BB⟩ := box4 w (.int .i64 x0) (.int .i64 x1) (.int .i64 x2) (.int .i64 x3) 25
  have RB := R.on BB
  have hlen := R.len
  have hrng := rd_rng255 R
  have c1 := fun W => tsize_b f W
  have c4 := fun W => tencode_b f x0 x1 x2 x3 W
  have e4 := enc_len f x0 x1 x2 x3
  have h8 := nsz_le f
  have hid := enc_idem f x0 x1 x2 x3
  obtain ⟨l1, hl1⟩ : ∃ s, enc f x0 x1 x2 x3 = s := ⟨_, rfl⟩
  rw [hl1] at c4 e4 hid
  have c5 := fun A n c W R h h2 => tdecode_b f A n c l1 W R h h2
  obtain ⟨z, hz⟩ : ∃ z, dec f l1 = z := ⟨_, rfl⟩
  rw [hz] at c5 hid
  have c6 := fun W => tencode_b f (z 0) (z 1) (z 2) (z 3) W
  rw [hid] at c6
  have c2 := fun W R => tdecode_b f A n c l W R hc hn
  obtain ⟨y, hy⟩ : ∃ y, dec f l = y := ⟨_, rfl⟩
  rw [hy] at c2
  have c3 := fun W => tencode_b f (y 0) (y 1) (y 2) (y 3) W
  have h3 : (f = 1 ∨ f = 2 ∨ f = 3 ∨ f = 4) → n = nsz f → enc f (y 0) (y 1) (y 2) (y 3) = l := fun hf hs => enc_dec_of hf (hlen.trans hs) hrng hy
  obtain ⟨l3, hl3⟩ : ∃ s, enc f (y 0) (y 1) (y 2) (y 3) = s := ⟨_, rfl⟩
  rw [hl3] at c3 h3
  obtain ⟨s, hs⟩ : ∃ s, nsz f = s := ⟨_, rfl⟩
  rw [hs] at c1 e4 h8 h3
  have C1 := Lib.hid c1
  have C2 := Lib.hid c2
  have C3 := Lib.hid c3
  have C4 := Lib.hid c4
  have C5 := Lib.hid c5
  have C6 := Lib.hid c6
  have E4 := Lib.hid e4
  have H3 := Lib.hid h3
  have HLEN := Lib.hid hlen
  clear c1 c2 c3 c4 c5 c6 hl1 hid hz hy hl3 e4 h3 R hrng hlen
  by_cases hns : n = s ∧ (f = 1 ∨ f = 2 ∨ f = 3 ∨ f = 4)
  · obtain ⟨hns, hf⟩ := hns
    have h3' := H3.out hf hns
    subst h3'
    have hs0 : s ≠ 0 := by rw [← hs]; rcases hf with rfl | rfl | rfl | rfl <;> decide
    clear H3
    subst hns
    clear hs
    rcases hf with rfl | rfl | rfl | rfl
    all_goals
      go_enter Try.func3, Try.ntmps3
      go_wp2_with (first
        | (go_at_call 9; (with_reducible refine (C1.out _).mono ?_); rintro _ W1 ⟨rfl, B⟩; replace RB := RB.on B; (try replace R4 := R4.on B); (try (replace a0 := cell_below B a0; replace a1 := cell_below B a1; replace a2 := cell_below B a2; replace a3 := cell_below B a3)); replace BB := bon BB B; clear B)
        | (go_at_call 12; (with_reducible refine (C2.out _ RB).mono ?_); rintro _ W2 ⟨rfl, B⟩; replace RB := RB.on B; replace a0 := cell_below B a0; replace a1 := cell_below B a1; replace a2 := cell_below B a2; replace a3 := cell_below B a3; replace BB := bon BB B; clear B)
        | (go_at_call 11; (with_reducible refine (C3.out _).mono ?_); rintro _ W3 ⟨A3, n3, d3, rfl, _, R3, B⟩; replace RB := RB.on B; replace a0 := cell_below B a0; replace a1 := cell_below B a1; replace a2 := cell_below B a2; replace a3 := cell_below B a3; replace BB := bon BB B; clear B)
        | (go_at_call 10; refine (lsame_b _ _ _ _ _ _ _ _ _ _ R3 RB (Nat.le_refl _) (Nat.le_refl _) (by have h1 := R3.len; have h2 := HLEN.out; omega)).mono ?_; rintro _ W4 ⟨rfl, B⟩; clear R3; replace a0 := cell_below B a0; replace a1 := cell_below B a1; replace a2 := cell_below B a2; replace a3 := cell_below B a3; replace BB := bon BB B; replace RB := RB.on B; clear B)
        | (go_at_call 11; (with_reducible refine (C4.out _).mono ?_); rintro _ W5 ⟨A4, n4, d4, rfl, hc4, R4, B⟩; obtain rfl : n4 = n := by rw [← R4.len, E4.out]
           replace BB := bon BB B; replace RB := RB.on B; clear B a0 a1 a2 a3)
        | (go_at_call 12; (with_reducible refine (C5.out _ _ _ _ R4 hc4 (by omega)).mono ?_); rintro _ W6 ⟨rfl, B⟩; replace R4 := R4.on B; replace BB := bon BB B; clear B)
        | (go_at_call 11; (with_reducible refine (C6.out _).mono ?_); rintro _ W7 ⟨A6, n6, d6, rfl, _, R6, B⟩; replace R4 := R4.on B; replace BB := bon BB B; clear B)
        | (go_at_call 10; refine (lsame_b _ _ _ _ _ _ _ _ _ _ R6 R4 (Nat.le_refl _) (Nat.le_refl _) (by have h1 := R6.len; have h2 := E4.out; omega)).mono ?_; rintro _ W8 ⟨rfl, B⟩; clear R6; replace BB := bon BB B; clear B)
        | (go_at_call 13; (with_reducible refine (texample_b _).mono ?_); rintro _ W9 ⟨rfl, B⟩; replace BB := bon BB B; clear B))
      go_ret
      exact ⟨rfl, BB⟩
  · clear H3 C2 C3 RB HLEN
    by_cases hf : f = 1 ∨ f = 2 ∨ f = 3 ∨ f = 4
    · have hne : ((n : Int) == (s : Int)) = false := by
        have : n ≠ s := fun h => hns ⟨h, hf⟩
        simp; omega
      have hs0 : s ≠ 0 := by rw [← hs]; rcases hf with rfl | rfl | rfl | rfl <;> decide
      clear hns hs
      rcases hf with rfl | rfl | rfl | rfl
      all_goals
        go_enter Try.func3, Try.ntmps3
        go_wp2_with (first
          | (go_at_call 9; (with_reducible refine (C1.out _).mono ?_); rintro _ W1 ⟨rfl, B⟩; (try replace R4 := R4.on B); (try (replace a0 := cell_below B a0; replace a1 := cell_below B a1; replace a2 := cell_below B a2; replace a3 := cell_below B a3)); replace BB := bon BB B; clear B)
          | (go_at_call 11; (with_reducible refine (C4.out _).mono ?_); rintro _ W5 ⟨A4, n4, d4, rfl, hc4, R4, B⟩; obtain rfl : n4 = s := by rw [← R4.len, E4.out]
             replace BB := bon BB B; clear B a0 a1 a2 a3)
          | (go_at_call 12; (with_reducible refine (C5.out _ _ _ _ R4 hc4 (by omega)).mono ?_); rintro _ W6 ⟨rfl, B⟩; replace R4 := R4.on B; replace BB := bon BB B; clear B)
          | (go_at_call 11; (with_reducible refine (C6.out _).mono ?_); rintro _ W7 ⟨A6, n6, d6, rfl, _, R6, B⟩; replace R4 := R4.on B; replace BB := bon BB B; clear B)
          | (go_at_call 10; refine (lsame_b _ _ _ _ _ _ _ _ _ _ R6 R4 (Nat.le_refl _) (Nat.le_refl _) (by have h1 := R6.len; have h2 := E4.out; omega)).mono ?_; rintro _ W8 ⟨rfl, B⟩; clear R6; replace BB := bon BB B; clear B)
          | (go_at_call 13; (with_reducible refine (texample_b _).mono ?_); rintro _ W9 ⟨rfl, B⟩; replace BB := bon BB B; clear B))
        go_ret
        exact ⟨rfl, BB⟩
    · clear hns
      by_cases h56 : f = 5 ∨ f = 6
      · have hs0 : s ≠ 0 := by rw [← hs]; rcases h56 with rfl | rfl <;> decide
        clear hs hf
        rcases h56 with rfl | rfl
        all_goals
          go_enter Try.func3, Try.ntmps3
          go_wp2_with (first
            | (go_at_call 9; (with_reducible refine (C1.out _).mono ?_); rintro _ W1 ⟨rfl, B⟩; (try replace R4 := R4.on B); (try (replace a0 := cell_below B a0; replace a1 := cell_below B a1; replace a2 := cell_below B a2; replace a3 := cell_below B a3)); replace BB := bon BB B; clear B)
            | (go_at_call 11; (with_reducible refine (C4.out _).mono ?_); rintro _ W5 ⟨A4, n4, d4, rfl, hc4, R4, B⟩; obtain rfl : n4 = s := by rw [← R4.len, E4.out]
               replace BB := bon BB B; clear B a0 a1 a2 a3)
            | (go_at_call 12; (with_reducible refine (C5.out _ _ _ _ R4 hc4 (by omega)).mono ?_); rintro _ W6 ⟨rfl, B⟩; replace R4 := R4.on B; replace BB := bon BB B; clear B)
            | (go_at_call 11; (with_reducible refine (C6.out _).mono ?_); rintro _ W7 ⟨A6, n6, d6, rfl, _, R6, B⟩; replace R4 := R4.on B; replace BB := bon BB B; clear B)
            | (go_at_call 10; refine (lsame_b _ _ _ _ _ _ _ _ _ _ R6 R4 (Nat.le_refl _) (Nat.le_refl _) (by have h1 := R6.len; have h2 := E4.out; omega)).mono ?_; rintro _ W8 ⟨rfl, B⟩; clear R6; replace BB := bon BB B; clear B)
            | (go_at_call 13; (with_reducible refine (texample_b _).mono ?_); rintro _ W9 ⟨rfl, B⟩; replace BB := bon BB B; clear B))
          go_ret
          exact ⟨rfl, BB⟩
      · obtain rfl : s = 0 := by rw [← hs, nsz_none (by omega)]
        have g1 : (f == 1) = false := by simp; omega
        have g2 : (f == 2) = false := by simp; omega
        have g3 : (f == 3) = false := by simp; omega
        have g4 : (f == 4) = false := by simp; omega
        clear hs hf h56
        go_enter Try.func3, Try.ntmps3
        go_wp2_with (first
          | (go_at_call 9; (with_reducible refine (C1.out _).mono ?_); rintro _ W1 ⟨rfl, B⟩; (try replace R4 := R4.on B); (try (replace a0 := cell_below B a0; replace a1 := cell_below B a1; replace a2 := cell_below B a2; replace a3 := cell_below B a3)); replace BB := bon BB B; clear B)
          | (go_at_call 11; (with_reducible refine (C4.out _).mono ?_); rintro _ W5 ⟨A4, n4, d4, rfl, hc4, R4, B⟩; obtain rfl : n4 = 0 := by rw [← R4.len, E4.out]
             replace BB := bon BB B; clear B a0 a1 a2 a3)
          | (go_at_call 12; (with_reducible refine (C5.out _ _ _ _ R4 hc4 (by omega)).mono ?_); rintro _ W6 ⟨rfl, B⟩; replace R4 := R4.on B; replace BB := bon BB B; clear B)
          | (go_at_call 11; (with_reducible refine (C6.out _).mono ?_); rintro _ W7 ⟨A6, n6, d6, rfl, _, R6, B⟩; replace R4 := R4.on B; replace BB := bon BB B; clear B)
          | (go_at_call 10; refine (lsame_b _ _ _ _ _ _ _ _ _ _ R6 R4 (Nat.le_refl _) (Nat.le_refl _) (by have h1 := R6.len; have h2 := E4.out; omega)).mono ?_; rintro _ W8 ⟨rfl, B⟩; clear R6; replace BB := bon BB B; clear B)
          | (go_at_call 13; (with_reducible refine (texample_b _).mono ?_); rintro _ W9 ⟨rfl, B⟩; replace BB := bon BB B; clear B))
        go_ret
        exact ⟨rfl, BB⟩

end Go.Proofs.Ytlfgpdohaomnlaa
