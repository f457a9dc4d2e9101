/- What the small functions of the reference of texel formats return; the statement's own comparison of bytes. -/
import Derived.Test.YtcjlgfadjedgbaaTMath
import Derived.Test.YtcjlgfadjedgbaaVRef2
import Derived.Test.YtcjlgfadjedgbaaMRef2
import Derived.Test.YtcjlgfadjedgbaaTail
import Derived.Test.YtcjlgfadjedgbaaGrow
import Derived.WalkSpells
namespace Go.Proofs.Ytcjlgfadjedgbaa
open Go.RowKit Go.Sort

set_option maxRecDepth 100000 in
theorem rsize_q (f : Int) (w : World) : Calls Try.prog 48 #[.int .i64 f] w fun e w' => e = .returned (.int .i64 (nsz f : Nat)) ∧ w = w' := by
  rcases fmt_cases f with rfl | rfl | rfl | rfl | rfl | rfl | h
  all_goals try (go_enter Try.func48, Try.ntmps48; go_wp2; go_ret; exact ⟨rfl, rfl⟩)
  rw [nsz_none h]
  obtain ⟨h1, h2, h3, h4, h5, h6⟩ := h
  go_enter Try.func48, Try.ntmps48
  go_wp2
  go_ret
  exact ⟨rfl, rfl⟩

set_option maxRecDepth 100000 in
theorem rcomps_q (f : Int) (w : World) : Calls Try.prog 63 #[.int .i64 f] w fun e w' => e = .returned (.int .i64 (ncm f : Nat)) ∧ w = w' := by
  rcases fmt_cases f with rfl | rfl | rfl | rfl | rfl | rfl | h
  all_goals try (go_enter Try.func63, Try.ntmps63; go_wp2; go_ret; exact ⟨rfl, rfl⟩)
  rw [ncm_none h]
  obtain ⟨h1, h2, h3, h4, h5, h6⟩ := h
  go_enter Try.func63, Try.ntmps63
  go_wp2
  go_ret
  exact ⟨rfl, rfl⟩

/-- Is there such a format? -/
def isf (f : Int) : Bool := decide (nsz f ≠ 0)

set_option maxRecDepth 100000 in
theorem rvalid_q (f : Int) (w : World) : Calls Try.prog 46 #[.int .i64 f] w fun e w' => e = .returned (.bool (isf f)) ∧ w = w' := by
  have c := fun W => rsize_q f W
  unfold isf
  obtain ⟨n, hn⟩ : ∃ n, nsz f = n := ⟨_, rfl⟩
  rw [hn] at c ⊢
  have C := Lib.hid c
  clear c hn
  go_enter Try.func46, Try.ntmps46
  go_wp2_with (go_at_call 48; with_reducible refine (C.out _).mono ?_; rintro _ _ ⟨rfl, rfl⟩)
  go_ret
  refine ⟨congrArg (fun b => Ending.returned (.bool b)) ?_, rfl⟩
  cases n <;> simp <;> omega

/-- The numbers that UNorm and FromUNorm meet. -/
theorem unorm_steps {x b : Int} (h : 1 ≤ b ∧ b ≤ 16) : ∃ c p z : Int, clampv x 0 65536 = c ∧ pw b = p ∧ IntKind.i64.wrap (2 ^ b.toNat) = p ∧ 2 ≤ p ∧ p ≤ 65536 ∧ IntKind.i64.wrap (c * (p - 1)) = z ∧ rda z 65536 = unv x b := by
  have hp := pw_16b h
  have hc := clampv_in (x := x) (show (0 : Int) ≤ 65536 by omega)
  have hm := mul_bds hc.1 hc.2 (show 0 ≤ pw b - 1 by omega) (Int.le_refl _)
  refine ⟨_, _, _, rfl, rfl, pw_i64 b (by omega), hp.1, hp.2, IntWalk.i64_in _ (by omega), ?_⟩
  rw [rda_in _ _ (by omega) (by omega) (by omega) (by omega), unv_in h]
theorem fromu_steps {n b : Int} (h : 1 ≤ b ∧ b ≤ 16) : ∃ c p : Int, clampv n 0 (p - 1) = c ∧ IntKind.i64.wrap (2 ^ b.toNat) = p ∧ 2 ≤ p ∧ p ≤ 65536 ∧ 0 ≤ c ∧ c ≤ 65536 ∧ rda (c * 65536) (p - 1) = fromv n b := by
  have hp := pw_16b h
  have hc := clampv_in (x := n) (show (0 : Int) ≤ pw b - 1 by omega)
  refine ⟨_, pw b, rfl, pw_i64 b (by omega), hp.1, hp.2, hc.1, by omega, ?_⟩
  rw [rda_in _ _ (by omega) (by omega) (by omega) (by omega), fromv_in h]

set_option maxRecDepth 100000 in
theorem runorm_b (x b : Int) (w : World) : Calls Try.prog 70 #[.int .i64 x, .int .i64 b] w fun e w' => e = .returned (.int .i64 (unv x b)) ∧ Below w.heap.size w w' := by
  have BB : Below w.heap.size w w := Below.refl _ _
  by_cases h : 1 ≤ b ∧ b ≤ 16
  · obtain ⟨c, p, z, e1, e2, e3, p0, p1, e4, e5⟩ := unorm_steps (x := x) h
    have c1 := fun W => rclamp_b x 0 65536 W
    have c2 := fun W => rrounddiv_b z 65536 W
    rw [e1] at c1
    rw [e5] at c2
    obtain ⟨u, hu⟩ : ∃ u, unv x b = u := ⟨_, rfl⟩
    rw [hu] at c2 ⊢
    have C1 := Lib.hid c1
    have C2 := Lib.hid c2
    clear c1 c2 e1 e2 e5 hu
    go_enter Try.func70, Try.ntmps70
    go_wp2_with fail
    refine wp_region_quiet_below (by kernel_rfl) (by kernel_rfl) ?_
    repeat (first | go_big_quiet_step ((first | (go_at_call 95; exact Calls.regrown_of (C1.out _)) | (go_at_call 22; exact Calls.regrown_of (C2.out _)))) | quiet_step ((first | (go_at_call 95; exact Calls.regrown_of (C1.out _)) | (go_at_call 22; exact Calls.regrown_of (C2.out _)))))
    refine wpQuiet_nil ?_
    intro W hw'
    have B := below_regrown' hw'
    clear hw'
    replace BB := bon BB B
    go_wp2
    go_ret
    exact ⟨rfl, BB⟩
  · rw [unv_out h]
    rcases (show b < 1 ∨ (1 ≤ b ∧ 16 < b) by omega) with h1 | ⟨h1, h2⟩
    all_goals (clear h; go_enter Try.func70, Try.ntmps70; go_wp2; go_ret; exact ⟨rfl, BB⟩)

set_option maxRecDepth 100000 in
theorem rfromu_b (n b : Int) (w : World) : Calls Try.prog 76 #[.int .i64 n, .int .i64 b] w fun e w' => e = .returned (.int .i64 (fromv n b)) ∧ Below w.heap.size w w' := by
  have BB : Below w.heap.size w w := Below.refl _ _
  by_cases h : 1 ≤ b ∧ b ≤ 16
  · obtain ⟨c, p, e1, e3, p0, p1, c0, c3, e5⟩ := fromu_steps (n := n) h
    have c1 := fun W => rclamp_b n 0 (p - 1) W
    have c2 := fun W => rrounddiv_b (c * 65536) (p - 1) W
    rw [e1] at c1
    rw [e5] at c2
    obtain ⟨u, hu⟩ : ∃ u, fromv n b = u := ⟨_, rfl⟩
    rw [hu] at c2 ⊢
    have C1 := Lib.hid c1
    have C2 := Lib.hid c2
    clear c1 c2 e1 e5 hu
    go_enter Try.func76, Try.ntmps76
    go_wp2_with (first | (go_at_call 95; refine (C1.out _).mono ?_; rintro _ _ ⟨rfl, B⟩; replace BB := bon BB B) | (go_at_call 22; refine (C2.out _).mono ?_; rintro _ _ ⟨rfl, B⟩; replace BB := bon BB B))
    go_ret
    exact ⟨rfl, BB⟩
  · rw [fromv_out h]
    rcases (show b < 1 ∨ (1 ≤ b ∧ 16 < b) by omega) with h1 | ⟨h1, h2⟩
    all_goals (clear h; go_enter Try.func76, Try.ntmps76; go_wp2; go_ret; exact ⟨rfl, BB⟩)

set_option maxRecDepth 100000 in
theorem rlb_b (n : Int) (m : Nat) (w : World) (hm : m ≤ 8) :
    Calls Try.prog 64 #[.int .i64 n, .int .i64 m] w (GivesOwn w w.heap.size 5 .u8 (lb m n)) := by
  have own0 := Own.made w 5 .u8
  have B0 : Below w.heap.size w (w.alloc (.cells #[] 5)) := (Below.refl _ _).alloc (Nat.le_refl _) _
  have OWN0 := Lib.hid own0
  clear own0
  go_enter Try.func64, Try.ntmps64
  go_wp2
  go_loopw [5, 6] (fun t i wr => ∃ (k cap : Nat) (A : Option Addr), k ≤ m ∧ i = .int .i64 k ∧ t = .slice A k cap ∧ Own wr w.heap.size 5 .u8 A k cap (lb k n) ∧ Below w.heap.size w wr) (fun _ i _ => m - (intOf i).toNat)
  case atStart => exact ⟨0, 0, _, by omega, rfl, rfl, OWN0.out, B0⟩
  case round =>
    clear OWN0 B0
    obtain ⟨k, cap, A, hk, rfl, rfl, own, BB⟩ := hrel
    have OWN := Lib.hid own
    clear own
    by_cases hlt : k < m
    · have hs := lb_snoc k n
      rw [← pow_8] at hs
      have HS := Lib.hid hs
      clear hs
      go_wp2_with (at_builtin; refine wpList_app1 _ rfl _ _ _ rfl eB OWN.out rfl (by rw [u8_min, u8_max]; omega) rfl (by simp only [maxLen]; omega) (by omega) ?_; intro A1 m1 d1 W1 own1 B1; obtain rfl : m1 = k + 1 := by have := own1.len; have := OWN.out.len; simp_all)
      go_roundw
      case rel => exact ⟨k + 1, d1, A1, by omega, by go_num, rfl, by rw [HS.out]; exact own1, BB.trans B1⟩
      case measure => simp [intOf]; omega
    · obtain rfl : k = m := by omega
      go_wp2
      go_ret
      exact ⟨A, k, cap, rfl, OWN.out, BB⟩

theorem litv_take {l : List Int} {k : Nat} {x : Int} (hx : Hid (l[k]? = some x)) : litv (l.take (k + 1)) = litv (l.take k) + x * 256 ^ k := by
  have h := lit_on (l := l) (p := 0) (k := k) (n := l.length) rfl (by
    rcases Nat.lt_or_ge k l.length with h | h
    · omega
    · rw [List.getElem?_eq_none h] at hx; cases hx.out) (x := x) (by rw [Nat.zero_add]; exact hx)
  simpa [part] using h

set_option maxRecDepth 100000 in
theorem rnumber_b (A : Option Addr) (n c B : Nat) (l : List Int) (w : World) (R : Rd w B .u8 A n l) (hn : n ≤ 4) :
    Calls Try.prog 75 #[.slice A n c] w fun e w' => e = .returned (.int .i64 (litv l)) ∧ w = w' := by
  have HL := Lib.hid R.len
  have HR := Lib.hid (rd_rng255 R)
  have RR := Lib.hid R
  clear R
  go_enter Try.func75, Try.ntmps75
  go_wp2
  go_loop [3, 4] (fun u i => ∃ (k : Nat) (acc : Int), k ≤ n ∧ i = .int .i64 k ∧ u = .int .i64 acc ∧ litv (l.take k) = acc) (fun _ i => n - (intOf i).toNat)
  case atStart => exact ⟨0, 0, by omega, rfl, rfl, by simp [litv]⟩
  case round =>
    obtain ⟨k, acc, hk, rfl, rfl, hh⟩ := hrel
    by_cases hlt : k < n
    · obtain ⟨b, off, x, rfl, cx, x0, x1, hx⟩ := RR.out.byte hlt
      have hr := litv_rng (l.take k) (fun x hx => HR.out x (List.mem_of_mem_take hx))
      have hs := litv_take hx
      rw [hh, List.length_take, HL.out, Nat.min_eq_left (by omega)] at hr
      obtain ⟨g1, g2, g3, g4⟩ := byte_on k x acc (by omega) hr.1 hr.2 x0 x1
      have hp4 := pow256_le (show k + 1 ≤ 4 by omega)
      have e4 : (256 : Int) ^ 4 = 4294967296 := by decide
      rw [hh] at hs
      obtain ⟨y, hy⟩ : ∃ y, x * 256 ^ k = y := ⟨_, rfl⟩
      rw [hy] at g1 g3 g4 hs
      have hpos := Int.mul_nonneg x0 (show (0 : Int) ≤ 256 ^ k by have := pow256_pos k; omega)
      rw [hy] at hpos
      have y1 : acc + y ≤ 4294967295 := by omega
      have acc0 := hr.1
      have HS := Lib.hid hs
      have G1 := Lib.hid g1
      clear hh hr hs hx hy g2 g4 hp4 e4 g1
      go_wp2
      go_round
      case rel => exact ⟨k + 1, acc + y, by omega, by go_num, by rw [G1.out, IntWalk.wrap64_in _ (by omega)], HS.out⟩
      case measure => simp [intOf]; omega
    · obtain rfl : k = n := by omega
      have hf : Hid (litv l = acc) := Lib.hid (by rw [← hh, List.take_of_length_le (by rw [HL.out]; exact Nat.le_refl _)])
      clear hh
      go_wp2
      go_ret
      exact ⟨by rw [hf.out]; rfl, rfl⟩

/-- The widths of a format's fields. -/
def wds (f : Int) : List Int := if f = 1 then [8] else if f = 2 then [8, 8, 8, 8] else if f = 3 then [5, 6, 5] else if f = 4 then [10, 10, 10, 2] else []
theorem rd_block {w : World} {b B n : Nat} {l : List Int} (hl : l.length = n) (hb : b < B) (hr : ∀ x ∈ l, IntKind.i64.min ≤ x ∧ x ≤ IntKind.i64.max) (h : ∀ (j : Nat) x, l[j]? = some x → w.cell? ⟨b, j, none⟩ = some (.int .i64 x)) : Rd w B .i64 (some ⟨b, 0, none⟩) n l :=
  ⟨hl, hr, fun _ => ⟨b, 0, rfl, hb, fun j x hx => by rw [Nat.zero_add]; exact h j x hx⟩⟩

set_option maxRecDepth 100000 in
theorem rwidths_b (f : Int) (w : World) (hf : f = 1 ∨ f = 2 ∨ f = 3 ∨ f = 4) :
    Calls Try.prog 68 #[.int .i64 f] w (GivesRd w .i64 (wds f)) := by
  rcases hf with rfl | rfl | rfl | rfl
  · go_enter Try.func68, Try.ntmps68
    go_wp2
    go_ret
    exact ⟨_, _, _, rfl, Nat.le_refl _, rd_block rfl (by simp) (by decide) (by intro j x h; match j, h with | 0, h => (simp [wds] at h; subst h; simp)), box_below _ _ _⟩
  · go_enter Try.func68, Try.ntmps68
    go_wp2
    go_ret
    exact ⟨_, _, _, rfl, Nat.le_refl _, rd_block rfl (by simp) (by decide) (by intro j x h; match j, h with | 0, h | 1, h | 2, h | 3, h => (simp [wds] at h; subst h; simp)), box_below _ _ _⟩
  · go_enter Try.func68, Try.ntmps68
    go_wp2
    go_ret
    exact ⟨_, _, _, rfl, Nat.le_refl _, rd_block rfl (by simp) (by decide) (by intro j x h; match j, h with | 0, h | 1, h | 2, h => (simp [wds] at h; subst h; simp)), box_below _ _ _⟩
  · go_enter Try.func68, Try.ntmps68
    go_wp2
    go_ret
    exact ⟨_, _, _, rfl, Nat.le_refl _, rd_block rfl (by simp) (by decide) (by intro j x h; match j, h with | 0, h | 1, h | 2, h | 3, h => (simp [wds] at h; subst h; simp)), box_below _ _ _⟩

set_option maxRecDepth 100000 in
theorem rswap_b (f x0 x1 x2 x3 : Int) (w : World) :
    Calls Try.prog 69 #[.int .i64 f, .agg #[.int .i64 x0, .int .i64 x1, .int .i64 x2, .int .i64 x3]] w fun e w' =>
      e = .returned (.agg #[.int .i64 (if f = 3 then x2 else x0), .int .i64 x1, .int .i64 (if f = 3 then x0 else x2), .int .i64 x3]) ∧ Below w.heap.size w w' := by
  obtain ⟨BB, a0, a1, a2, a3, d0, d1, d2, d3, f0, f1, f2, f3⟩ := args1 w (.int .i64 x0) (.int .i64 x1) (.int .i64 x2) (.int .i64 x3) 44
  by_cases h : f = 3
  · subst h
    rw [if_pos rfl, if_pos rfl]
    go_enter Try.func69, Try.ntmps69
    go_wp2
    exact bodyPost_ret (v := .agg #[.int .i64 x2, .int .i64 x1, .int .i64 x0, .int .i64 x3]) (by simp [results, Try.results69, go_sem]) rfl ⟨rfl, ((Below.refl _ _).alloc (Nat.le_refl _) _).alloc (by simp) _⟩
  · rw [if_neg h, if_neg h]
    go_enter Try.func69, Try.ntmps69
    go_wp2
    exact bodyPost_ret (v := .agg #[.int .i64 x0, .int .i64 x1, .int .i64 x2, .int .i64 x3]) (by simp [results, Try.results69, go_sem]) rfl ⟨rfl, ((Below.refl _ _).alloc (Nat.le_refl _) _).alloc (by simp) _⟩

end Go.Proofs.Ytcjlgfadjedgbaa
