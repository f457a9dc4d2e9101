/- What package buffer's LoadInt, StoreInt, Components, Size, ValidAttribute, decode, encode return. -/
import Derived.Test.YtfakmeimideoaaaB1
import Derived.Test.YtfakmeimideoaaaFixedB
import Derived.Test.YtfakmeimideoaaaMini3
namespace Go.Proofs.Ytfakmeimideoaaa
open Go.RowKit Go.Sort

theorem blittle_at (A : Option Addr) (n c : Nat) (l : List Int) (w : World) (R : Rd w w.heap.size .u8 A n l) (p m : Int) (q k : Nat) (ep : p = q) (em : m = k) (hn : n ≤ 9223372036854775807) (m1 : 1 ≤ k) (m4 : k ≤ 4) (hp : q + k ≤ n) :
    Calls Try.prog 25 #[.slice A n c, .int .i64 p, .int .i64 m] w fun e w' => e = .returned (.int .i64 (litv (part l q k))) ∧ Below w.heap.size w w' := by
  subst ep; subst em; exact little_yes A n c q k l w R hn m1 m4 hp

set_option maxRecDepth 100000 in
theorem cps_q (f : Int) (w : World) : Calls Try.prog 31 #[.int .i64 f] w fun e w' => e = .returned (.int .i64 (cps f : Nat)) ∧ w = w' := by
  rcases vf_cases f with rfl | rfl | rfl | rfl | rfl | rfl | rfl | rfl | h
  all_goals try (go_enter Try.func31, Try.ntmps31; go_wp2; go_ret; exact ⟨rfl, rfl⟩)
  rw [cps_none h]
  obtain ⟨h1, h2, h3, h4, h5, h6, h7, h8⟩ := h
  go_enter Try.func31, Try.ntmps31
  go_wp2
  go_ret
  exact ⟨rfl, rfl⟩

set_option maxRecDepth 100000 in
theorem csz_q (f : Int) (w : World) : Calls Try.prog 39 #[.int .i64 f] w fun e w' => e = .returned (.int .i64 (csz f : Nat)) ∧ w = w' := by
  rcases (show f = 5 ∨ f = 6 ∨ f = 7 ∨ (f ≠ 5 ∧ f ≠ 6 ∧ f ≠ 7) by omega) with rfl | rfl | rfl | h
  all_goals try (go_enter Try.func39, Try.ntmps39; go_wp2; go_ret; exact ⟨rfl, rfl⟩)
  rw [csz_none h]
  obtain ⟨h1, h2, h3⟩ := h
  go_enter Try.func39, Try.ntmps39
  go_wp2
  go_ret
  exact ⟨rfl, rfl⟩

theorem size_q (f : Int) (w : World) : Calls Try.prog 46 #[.int .i64 f] w fun e w' => e = .returned (.int .i64 (sizv f : Nat)) ∧ w = w' := by
  have C1 := Lib.hid (fun W => cps_q f W)
  have C2 := Lib.hid (fun W => csz_q f W)
  have h1 := cps_le f
  have h2 := csz_rng f
  have h3 := sizv_le f
  have h4 : IntKind.i64.wrap ((cps f : Int) * (csz f : Int)) = (sizv f : Nat) := by
    rw [← Int.natCast_mul]
    exact IntWalk.i64_in _ (by unfold sizv at h3; omega)
  obtain ⟨a, ha⟩ : ∃ a, cps f = a := ⟨_, rfl⟩
  obtain ⟨b, hb⟩ : ∃ b, csz f = b := ⟨_, rfl⟩
  obtain ⟨d, hd⟩ : ∃ d, sizv f = d := ⟨_, rfl⟩
  rw [ha] at C1 h1 h4
  rw [hb] at C2 h2 h4
  rw [hd] at h3 h4 ⊢
  clear ha hb hd
  go_enter Try.func46, Try.ntmps46
  go_wp2_with (first
    | (go_at_call 31; (with_reducible refine (C1.out _).mono ?_); rintro _ _ ⟨rfl, rfl⟩)
    | (go_at_call 39; (with_reducible refine (C2.out _).mono ?_); rintro _ _ ⟨rfl, rfl⟩))
  go_ret
  exact ⟨rfl, rfl⟩

theorem sizv_pos {f : Int} : 0 < sizv f ↔ 0 < cps f := by
  have h2 := csz_rng f
  unfold sizv
  constructor
  · intro h
    rcases Nat.eq_zero_or_pos (cps f) with h0 | h0
    · rw [h0, Nat.zero_mul] at h; omega
    · exact h0
  · intro h
    exact Nat.mul_pos h (by omega)

set_option maxRecDepth 100000 in
theorem attr_b (b o s f : Int) (w : World) : Calls Try.prog 33 #[.agg #[.int .i64 b, .int .i64 o, .int .i64 s, .int .i64 f]] w fun e w' => e = .returned (.bool (decide (attr b o s f))) ∧ Below w.heap.size w w' := by
  obtain ⟨a0, a1, a2, a3, BB⟩ := box4 w (.int .i64 b) (.int .i64 o) (.int .i64 s) (.int .i64 f) 45
  have hc := sizv_le f
  have C := Lib.hid (fun W => of_q (size_q f W))
  obtain ⟨k, hk⟩ : ∃ k, sizv f = k := ⟨_, rfl⟩
  have e : decide (attr b o s f) = decide ((0 ≤ b ∧ b < 4) ∧ (0 ≤ o ∧ o ≤ 4096) ∧ (0 ≤ s ∧ s ≤ 256) ∧ 0 < k) := by rw [decide_eq_decide]; unfold attr; rw [← sizv_pos, hk]
  rw [e]
  rw [hk] at C hc
  clear hk e
  by_cases h : (0 ≤ b ∧ b < 4) ∧ (0 ≤ o ∧ o ≤ 4096) ∧ (0 ≤ s ∧ s ≤ 256)
  · obtain ⟨⟨h1, h2⟩, ⟨h3, h4⟩, h5, h6⟩ := h
    rw [show decide ((0 ≤ b ∧ b < 4) ∧ (0 ≤ o ∧ o ≤ 4096) ∧ (0 ≤ s ∧ s ≤ 256) ∧ 0 < k) = decide (0 < k) from decide_eq_decide.2 ⟨fun q => q.2.2.2, fun q => ⟨⟨h1, h2⟩, ⟨h3, h4⟩, ⟨h5, h6⟩, q⟩⟩]
    go_enter Try.func33, Try.ntmps33
    go_wp2_with (first | (go_at_call 46; refine (C.out _).mono ?_; rintro _ _ ⟨rfl, B⟩; replace BB := bon BB B; replace a0 := cell_below B a0; replace a1 := cell_below B a1; replace a2 := cell_below B a2; replace a3 := cell_below B a3))
    go_ret
    exact ⟨congrArg (fun b => Ending.returned (.bool b)) (by simp), BB⟩
  · rw [decide_eq_false fun q => h ⟨q.1, q.2.1, q.2.2.1⟩]
    rcases (show b < 0 ∨ (0 ≤ b ∧ 4 ≤ b) ∨ (0 ≤ b ∧ b < 4 ∧ o < 0) ∨ (0 ≤ b ∧ b < 4 ∧ 0 ≤ o ∧ 4096 < o) ∨ (0 ≤ b ∧ b < 4 ∧ 0 ≤ o ∧ o ≤ 4096 ∧ s < 0) ∨ (0 ≤ b ∧ b < 4 ∧ 0 ≤ o ∧ o ≤ 4096 ∧ 0 ≤ s ∧ 256 < s) by omega) with h1 | ⟨h1, h2⟩ | ⟨h1, h2, h3⟩ | ⟨h1, h2, h3, h4⟩ | ⟨h1, h2, h3, h4, h5⟩ | ⟨h1, h2, h3, h4, h5, h6⟩
    all_goals
      clear h
      go_enter Try.func33, Try.ntmps33
      go_wp2
      go_ret
      exact ⟨rfl, BB⟩

set_option maxRecDepth 100000 in
theorem decode_b (f n : Int) (w : World) (h0 : 0 ≤ n) (h1 : n < 256 ^ csz f) :
    Calls Try.prog 40 #[.int .i64 f, .int .i64 n] w fun e w' => e = .returned (.int .i64 (dcd f n)) ∧ Below w.heap.size w w' := by
  have BB : Below w.heap.size w w := Below.refl _ _
  rcases (show f = 5 ∨ f = 6 ∨ f = 7 ∨ f = 8 ∨ (f ≠ 5 ∧ f ≠ 6 ∧ f ≠ 7 ∧ f ≠ 8) by omega) with rfl | rfl | rfl | rfl | h
  · have h2 : n < 256 := by rw [show csz 5 = 1 from rfl, show (256 : Int) ^ 1 = 256 by decide] at h1; exact h1
    have c1 := fun W => rounddiv_b (n * 65536) 255 W
    rw [rda_in _ _ (by omega) (by omega) (by omega) (by omega)] at c1
    rw [dcd_5]
    have C1 := Lib.hid c1
    clear c1 h1
    go_enter Try.func40, Try.ntmps40
    go_wp2_with (first | (go_at_call 47; refine (C1.out _).mono ?_; rintro _ _ ⟨rfl, B⟩; replace BB := bon BB B))
    go_ret
    exact ⟨rfl, BB⟩
  · have h2 : n < 65536 := by rw [show csz 6 = 2 from rfl, show (256 : Int) ^ 2 = 65536 by decide] at h1; exact h1
    rw [dcd_half (.inl rfl)]
    have C1 := Lib.hid (fun W => decode_yes 5 10 n true W (by omega) (by omega) (by omega) (by omega) h0 (by rw [show pw (5 + 10 + sbit true) = 65536 by decide]; exact h2))
    clear h1
    go_enter Try.func40, Try.ntmps40
    go_wp2_with (first | (go_at_call 49; refine (half_b _).mono ?_; rintro _ _ ⟨rfl, B⟩; replace BB := bon BB B) | (go_at_call 48; refine (C1.out _).mono ?_; rintro _ _ ⟨rfl, B⟩; replace BB := bon BB B))
    go_ret
    exact ⟨rfl, BB⟩
  · have h2 : n < 65536 := by rw [show csz 7 = 2 from rfl, show (256 : Int) ^ 2 = 65536 by decide] at h1; exact h1
    rw [dcd_half (.inr rfl)]
    have C1 := Lib.hid (fun W => decode_yes 5 10 n true W (by omega) (by omega) (by omega) (by omega) h0 (by rw [show pw (5 + 10 + sbit true) = 65536 by decide]; exact h2))
    clear h1
    go_enter Try.func40, Try.ntmps40
    go_wp2_with (first | (go_at_call 49; refine (half_b _).mono ?_; rintro _ _ ⟨rfl, B⟩; replace BB := bon BB B) | (go_at_call 48; refine (C1.out _).mono ?_; rintro _ _ ⟨rfl, B⟩; replace BB := bon BB B))
    go_ret
    exact ⟨rfl, BB⟩
  · have h2 : n < 4294967296 := by rw [show csz 8 = 4 from rfl, show (256 : Int) ^ 4 = 4294967296 by decide] at h1; exact h1
    rw [dcd_8]
    have c1 := fun W => wrap_b n W
    rw [sg_wrap h0 h2] at c1
    have C1 := Lib.hid c1
    clear c1 h1
    go_enter Try.func40, Try.ntmps40
    go_wp2_with (first | (go_at_call 50; refine (C1.out _).mono ?_; rintro _ _ ⟨rfl, B⟩; replace BB := bon BB B))
    go_ret
    exact ⟨rfl, BB⟩
  · obtain ⟨g1, g2, g3, g4⟩ := h
    rw [csz_none ⟨g1, g2, g3⟩] at h1
    have h2 : n < 4294967296 := by rw [show (256 : Int) ^ 4 = 4294967296 by decide] at h1; exact h1
    rw [dcd_fix ⟨g1, g2, g3, g4⟩]
    have c1 := fun W => wrap_b n W
    rw [sg_wrap h0 h2] at c1
    have C1 := Lib.hid c1
    have C2 := Lib.hid (fun W => saturate_b (sg n) W)
    clear c1 h1
    go_enter Try.func40, Try.ntmps40
    go_wp2_with (first | (go_at_call 50; refine (C1.out _).mono ?_; rintro _ _ ⟨rfl, B⟩; replace BB := bon BB B) | (go_at_call 51; refine (C2.out _).mono ?_; rintro _ _ ⟨rfl, B⟩; replace BB := bon BB B))
    go_ret
    exact ⟨rfl, BB⟩

end Go.Proofs.Ytfakmeimideoaaa
