/- What the reference's LoadInt, StoreInt, Components, Size, ValidAttribute return. -/
import Derived.Test.YtfakmeimideoaaaBMath
import Derived.Test.YtfakmeimideoaaaMake
import Derived.Test.YtfakmeimideoaaaMRef2
namespace Go.Proofs.Ytfakmeimideoaaa
open Go.RowKit Go.Sort

theorem of_q {f : FuncId} {args : Array Value} {w : World} {v : Value} (h : Calls Try.prog f args w fun e w' => e = .returned v ∧ w = w') : Calls Try.prog f args w fun e w' => e = .returned v ∧ Below w.heap.size w w' :=
  h.mono (by rintro _ _ ⟨rfl, rfl⟩; exact ⟨rfl, Below.refl _ _⟩)

theorem rlimit_q (x lo hi : Int) (w : World) (h : lo ≤ hi) : Calls Try.prog 42 #[.int .i64 x, .int .i64 lo, .int .i64 hi] w fun e w' => e = .returned (.int .i64 (clampv x lo hi)) ∧ w = w' := by
  rcases (show x < lo ∨ (lo ≤ x ∧ hi < x) ∨ (lo ≤ x ∧ x ≤ hi) by omega) with h1 | ⟨h1, h2⟩ | ⟨h1, h2⟩
  · rw [show clampv x lo hi = lo by unfold clampv; rw [if_pos (.inr h1)]]
    go_enter Try.func42, Try.ntmps42
    go_wp2
    go_ret
    exact ⟨rfl, rfl⟩
  · rw [show clampv x lo hi = hi by unfold clampv; rw [if_neg (by omega), if_pos h2]]
    go_enter Try.func42, Try.ntmps42
    go_wp2
    go_ret
    exact ⟨rfl, rfl⟩
  · rw [clampv_id h1 h2]
    go_enter Try.func42, Try.ntmps42
    go_wp2
    go_ret
    exact ⟨rfl, rfl⟩

theorem rsigned_q (n : Int) (w : World) (h0 : 0 ≤ n) (h1 : n < 4294967296) : Calls Try.prog 52 #[.int .i64 n] w fun e w' => e = .returned (.int .i64 (sg n)) ∧ w = w' := by
  by_cases h : 2147483648 ≤ n
  · rw [show sg n = n - 4294967296 from if_pos h]
    go_enter Try.func52, Try.ntmps52
    go_wp2
    go_ret
    exact ⟨rfl, rfl⟩
  · rw [show sg n = n from if_neg h]
    go_enter Try.func52, Try.ntmps52
    go_wp2
    go_ret
    exact ⟨rfl, rfl⟩

theorem rword_b (A : Option Addr) (n c : Nat) (l : List Int) (q : Int) (p : Nat) (w : World) (hq : q = p) (R : Rd w w.heap.size .u8 A n l) (hn : n ≤ 9223372036854775807) (hp : p + 4 ≤ n) :
    Calls Try.prog 43 #[.slice A n c, .int .i64 q] w fun e w' => e = .returned (.int .i64 (sg (litv (part l p 4)))) ∧ Below w.heap.size w w' := by
  subst hq
  have BB : Below w.heap.size w w := Below.refl _ _
  have hr := lit4_rng (p := p) (rd_rng255 R) (by rw [R.len]; exact hp)
  have c1 := rlittle_yes A n c p 4 l w R hn (by omega) (by omega) hp
  obtain ⟨x, hx⟩ : ∃ x, litv (part l p 4) = x := ⟨_, rfl⟩
  rw [hx] at c1 hr ⊢
  have C1 := Lib.hid c1
  have C2 := Lib.hid (fun W => of_q (rsigned_q x W hr.1 hr.2))
  clear c1 hx hr R
  go_enter Try.func43, Try.ntmps43
  go_wp2_with (first | (go_at_call 26; refine (C1.out).mono ?_; rintro _ _ ⟨rfl, B⟩; replace BB := bon BB B) | (go_at_call 52; refine (C2.out _).mono ?_; rintro _ _ ⟨rfl, B⟩; replace BB := bon BB B))
  go_ret
  exact ⟨rfl, BB⟩

set_option maxRecDepth 100000 in
theorem rcps_q (f : Int) (w : World) : Calls Try.prog 32 #[.int .i64 f] w fun e w' => e = .returned (.int .i64 (cps f : Nat)) ∧ w = w' := by
  rcases vf_cases f with rfl | rfl | rfl | rfl | rfl | rfl | rfl | rfl | h
  all_goals try (go_enter Try.func32, Try.ntmps32; go_wp2; go_ret; exact ⟨rfl, rfl⟩)
  rw [cps_none h]
  obtain ⟨h1, h2, h3, h4, h5, h6, h7, h8⟩ := h
  go_enter Try.func32, Try.ntmps32
  go_wp2
  go_ret
  exact ⟨rfl, rfl⟩

theorem rsize_q (f : Int) (w : World) : Calls Try.prog 41 #[.int .i64 f] w fun e w' => e = .returned (.int .i64 (sizv f : Nat)) ∧ w = w' := by
  have key : sizv f = cps f * csz f := rfl
  have hk := cps_le f
  have C := Lib.hid (fun W => rcps_q f W)
  obtain ⟨k, hk'⟩ : ∃ k, cps f = k := ⟨_, rfl⟩
  rw [hk'] at C hk key
  clear hk'
  rcases (show f = 5 ∨ (f = 6 ∨ f = 7) ∨ (f ≠ 5 ∧ f ≠ 6 ∧ f ≠ 7) by omega) with rfl | h | h
  · clear C key
    go_enter Try.func41, Try.ntmps41
    go_wp2
    go_ret
    exact ⟨rfl, rfl⟩
  · have key2 : ((sizv f : Nat) : Int) = 2 * (k : Int) := by rw [key]; rcases h with rfl | rfl <;> (show ((k * 2 : Nat) : Int) = 2 * (k : Int)) <;> omega
    rw [key2]
    clear key key2
    rcases h with rfl | rfl
    all_goals
      go_enter Try.func41, Try.ntmps41
      go_wp2_with (go_at_call 32; (with_reducible refine (C.out _).mono ?_); rintro _ _ ⟨rfl, rfl⟩)
      go_ret
      exact ⟨rfl, rfl⟩
  · have key2 : ((sizv f : Nat) : Int) = 4 * (k : Int) := by rw [key, csz_none h]; omega
    rw [key2]
    obtain ⟨h1, h2, h3⟩ := h
    clear key key2
    go_enter Try.func41, Try.ntmps41
    go_wp2_with (go_at_call 32; (with_reducible refine (C.out _).mono ?_); rintro _ _ ⟨rfl, rfl⟩)
    go_ret
    exact ⟨rfl, rfl⟩

set_option maxRecDepth 100000 in
theorem rattr_b (b o s f : Int) (w : World) : Calls Try.prog 34 #[.agg #[.int .i64 b, .int .i64 o, .int .i64 s, .int .i64 f]] w fun e w' => e = .returned (.bool (decide (attr b o s f))) ∧ Below w.heap.size w w' := by
  obtain ⟨a0, a1, a2, a3, BB⟩ := box4 w (.int .i64 b) (.int .i64 o) (.int .i64 s) (.int .i64 f) 45
  have hc := cps_le f
  have C := Lib.hid (fun W => of_q (rcps_q f W))
  obtain ⟨k, hk⟩ : ∃ k, cps f = k := ⟨_, rfl⟩
  have e : decide (attr b o s f) = decide ((0 ≤ b ∧ b < 4) ∧ (0 ≤ o ∧ o ≤ 4096) ∧ (0 ≤ s ∧ s ≤ 256) ∧ 0 < k) := by rw [decide_eq_decide]; unfold attr; rw [hk]
  rw [e]
  rw [hk] at C hc
  clear hk e
  by_cases h : (0 ≤ b ∧ b < 4) ∧ (0 ≤ o ∧ o ≤ 4096) ∧ (0 ≤ s ∧ s ≤ 256)
  · obtain ⟨⟨h1, h2⟩, ⟨h3, h4⟩, h5, h6⟩ := h
    rw [show decide ((0 ≤ b ∧ b < 4) ∧ (0 ≤ o ∧ o ≤ 4096) ∧ (0 ≤ s ∧ s ≤ 256) ∧ 0 < k) = decide (0 < k) from decide_eq_decide.2 ⟨fun q => q.2.2.2, fun q => ⟨⟨h1, h2⟩, ⟨h3, h4⟩, ⟨h5, h6⟩, q⟩⟩]
    go_enter Try.func34, Try.ntmps34
    go_wp2_with (first | (go_at_call 32; refine (C.out _).mono ?_; rintro _ _ ⟨rfl, B⟩; replace BB := bon BB B; replace a0 := cell_below B a0; replace a1 := cell_below B a1; replace a2 := cell_below B a2; replace a3 := cell_below B a3))
    go_ret
    exact ⟨congrArg (fun b => Ending.returned (.bool b)) (by simp), BB⟩
  · rw [decide_eq_false fun q => h ⟨q.1, q.2.1, q.2.2.1⟩]
    rcases (show b < 0 ∨ (0 ≤ b ∧ 3 < b) ∨ (0 ≤ b ∧ b ≤ 3 ∧ o < 0) ∨ (0 ≤ b ∧ b ≤ 3 ∧ 0 ≤ o ∧ 4096 < o) ∨ (0 ≤ b ∧ b ≤ 3 ∧ 0 ≤ o ∧ o ≤ 4096 ∧ s < 0) ∨ (0 ≤ b ∧ b ≤ 3 ∧ 0 ≤ o ∧ o ≤ 4096 ∧ 0 ≤ s ∧ 256 < s) by omega) with h1 | ⟨h1, h2⟩ | ⟨h1, h2, h3⟩ | ⟨h1, h2, h3, h4⟩ | ⟨h1, h2, h3, h4, h5⟩ | ⟨h1, h2, h3, h4, h5, h6⟩
    all_goals
      clear h
      go_enter Try.func34, Try.ntmps34
      go_wp2
      go_ret
      exact ⟨rfl, BB⟩

end Go.Proofs.Ytfakmeimideoaaa
