/- What the small functions of the reference of texel formats return; the statement's own comparison of bytes. -/
import Derived.Test.YtcjlgfadjedgbaaTMath
import Derived.Test.YtcjlgfadjedgbaaVec
import Derived.Test.YtcjlgfadjedgbaaMRef
import Derived.Test.YtcjlgfadjedgbaaTail
import Derived.Test.YtcjlgfadjedgbaaTreeC
import Derived.WalkSpells
namespace Go.Proofs.Ytcjlgfadjedgbaa
open Go.RowKit Go.Sort

set_option maxRecDepth 100000 in
theorem rsize_q (f : Int) (w : World) : Calls Try.prog 48 #[.int .i64 f] w fun e w' => e = .returned (.int .i64 (nsz f : Nat)) ∧ w = w' := by
  rcases fmt_cases f with rfl | rfl | rfl | rfl | rfl | rfl | h
  all_goals try (go_enter Try.func48, Try.ntmps48; go_wp2; go_ret; exact ⟨rfl, rfl⟩)
  rw [nsz_none h]
  obtain ⟨h1, h2, h3, h4, h5, h6⟩ := h
  go_enter Try.func48, Try.ntmps48
  go_wp2
  go_ret
  exact ⟨rfl, rfl⟩

set_option maxRecDepth 100000 in
theorem rcomps_q (f : Int) (w : World) : Calls Try.prog 63 #[.int .i64 f] w fun e w' => e = .returned (.int .i64 (ncm f : Nat)) ∧ w = w' := by
  rcases fmt_cases f with rfl | rfl | rfl | rfl | rfl | rfl | h
  all_goals try (go_enter Try.func63, Try.ntmps63; go_wp2; go_ret; exact ⟨rfl, rfl⟩)
  rw [ncm_none h]
  obtain ⟨h1, h2, h3, h4, h5, h6⟩ := h
  go_enter Try.func63, Try.ntmps63
  go_wp2
  go_ret
  exact ⟨rfl, rfl⟩

/-- Is there such a format? -/
def isf (f : Int) : Bool := decide (nsz f ≠ 0)

set_option maxRecDepth 100000 in
theorem rvalid_q (f : Int) (w : World) : Calls Try.prog 46 #[.int .i64 f] w fun e w' => e = .returned (.bool (isf f)) ∧ w = w' := by
  have c := fun W => rsize_q f W
  unfold isf
  obtain ⟨n, hn⟩ : ∃ n, nsz f = n := ⟨_, rfl⟩
  rw [hn] at c ⊢
  have C := Lib.hid c
  clear c hn
  go_enter Try.func46, Try.ntmps46
  go_wp2_with (go_at_call 48; with_reducible refine (C.out _).mono ?_; rintro _ _ ⟨rfl, rfl⟩)
  go_ret
  refine ⟨congrArg (fun b => Ending.returned (.bool b)) ?_, rfl⟩
  cases n <;> simp <;> omega

/-- The numbers that UNorm and FromUNorm meet. -/
theorem unorm_steps {x b : Int} (h : 1 ≤ b ∧ b ≤ 16) : ∃ c p z : Int, clampv x 0 65536 = c ∧ pw b = p ∧ IntKind.i64.wrap (2 ^ b.toNat) = p ∧ 2 ≤ p ∧ p ≤ 65536 ∧ IntKind.i64.wrap (c * (p - 1)) = z ∧ rda z 65536 = unv x b := by
  have hp := pw_16b h
  have hc := clampv_in (x := x) (show (0 : Int) ≤ 65536 by omega)
  have hm := mul_bds hc.1 hc.2 (show 0 ≤ pw b - 1 by omega) (Int.le_refl _)
  refine ⟨_, _, _, rfl, rfl, pw_i64 b (by omega), hp.1, hp.2, IntWalk.i64_in _ (by omega), ?_⟩
  rw [rda_in _ _ (by omega) (by omega) (by omega) (by omega), unv_in h]
theorem fromu_steps {n b : Int} (h : 1 ≤ b ∧ b ≤ 16) : ∃ c p : Int, clampv n 0 (p - 1) = c ∧ IntKind.i64.wrap (2 ^ b.toNat) = p ∧ 2 ≤ p ∧ p ≤ 65536 ∧ 0 ≤ c ∧ c ≤ 65536 ∧ rda (c * 65536) (p - 1) = fromv n b := by
  have hp := pw_16b h
  have hc := clampv_in (x := n) (show (0 : Int) ≤ pw b - 1 by omega)
  refine ⟨_, pw b, rfl, pw_i64 b (by omega), hp.1, hp.2, hc.1, by omega, ?_⟩
  rw [rda_in _ _ (by omega) (by omega) (by omega) (by omega), fromv_in h]

set_option maxRecDepth 100000 in
theorem runorm_b (x b : Int) (w : World) : Calls Try.prog 70 #[.int .i64 x, .int .i64 b] w fun e w' => e = .returned (.int .i64 (unv x b)) ∧ Below w.heap.size w w' := by
  have BB : Below w.heap.size w w := Below.refl _ _
  by_cases h : 1 ≤ b ∧ b ≤ 16
  · obtain ⟨c, p, z, e1, e2, e3, p0, p1, e4, e5⟩ := unorm_steps (x := x) h
    have c1 := fun W => rclamp_b x 0 65536 W
    have c2 := fun W => rrounddiv_b z 65536 W
    rw [e1] at c1
    rw [e5] at c2
    obtain ⟨u, hu⟩ : ∃ u, unv x b = u := ⟨_, rfl⟩
    rw [hu] at c2 ⊢
    have C1 := Lib.hid c1
    have C2 := Lib.hid c2
    clear c1 c2 e1 e2 e5 hu
    go_enter Try.func70, Try.ntmps70
    go_wp2_with fail
    refine wp_region_quiet_below (by kernel_rfl) (by kernel_rfl) ?_
    repeat (first | go_big_quiet_step ((first | (go_at_call 95; exact Calls.regrown_of (C1.out _)) | (go_at_call 22; exact Calls.regrown_of (C2.out _)))) | quiet_step ((first | (go_at_call 95; exact Calls.regrown_of (C1.out _)) | (go_at_call 22; exact Calls.regrown_of (C2.out _)))))
    refine wpQuiet_nil ?_
    intro W hw'
    have B := below_regrown' hw'
    clear hw'
    replace BB := bon BB B
    go_wp2
    go_ret
    exact ⟨rfl, BB⟩
  · rw [unv_out h]
    rcases (show b < 1 ∨ (1 ≤ b ∧ 16 < b) by omega) with h1 | ⟨h1, h2⟩
    all_goals (clear h; go_enter Try.func70, Try.ntmps70; go_wp2; go_ret; exact ⟨rfl, BB⟩)

set_option maxRecDepth 100000 in
theorem rfromu_b (n b : Int) (w : World) : Calls Try.prog 76 #[.int .i64 n, .int .i64 b] w fun e w' => e = .returned (.int .i64 (fromv n b)) ∧ Below w.heap.size w w' := by
  have BB : Below w.heap.size w w := Below.refl _ _
  by_cases h : 1 ≤ b ∧ b ≤ 16
  · obtain ⟨c, p, e1, e3, p0, p1, c0, c3, e5⟩ := fromu_steps (n := n) h
    have c1 := fun W => rclamp_b n 0 (p - 1) W
    have c2 := fun W => rrounddiv_b (c * 65536) (p - 1) W
    rw [e1] at c1
    rw [e5] at c2
    obtain ⟨u, hu⟩ : ∃ u, fromv n b = u := ⟨_, rfl⟩
    rw [hu] at c2 ⊢
    have C1 := Lib.hid c1
    have C2 := Lib.hid c2
    clear c1 c2 e1 e5 hu
    go_enter Try.func76, Try.ntmps76
    go_wp2_with (first | (go_at_call 95; refine (C1.out _).mono ?_; rintro _ _ ⟨rfl, B⟩; replace BB := bon BB B) | (go_at_call 22; refine (C2.out _).mono ?_; rintro _ _ ⟨rfl, B⟩; replace BB := bon BB B))
    go_ret
    exact ⟨rfl, BB⟩
  · rw [fromv_out h]
    rcases (show b < 1 ∨ (1 ≤ b ∧ 16 < b) by omega) with h1 | ⟨h1, h2⟩
    all_goals (clear h; go_enter Try.func76, Try.ntmps76; go_wp2; go_ret; exact ⟨rfl, BB⟩)

set_option maxRecDepth 100000 in
theorem rlb_b (n : Int) (m : Nat) (w : World) (hm : m ≤ 8) :
    Calls Try.prog 64 #[.int .i64 n, .int .i64 m] w (GivesOwn w w.heap.size 5 .u8 (lb m n)) := by
  have own0 := Own.made w 5 .u8
  have B0 : Below w.heap.size w (w.alloc (.cells #[] 5)) := (Below.refl _ _).alloc (Nat.le_refl _) _
  have OWN0 := Lib.hid own0
  clear own0
  go_enter Try.func64, Try.ntmps64
  go_wp2
  go_loopw [5, 6] (fun t i wr => ∃ (k cap : Nat) (A : Option Addr), k ≤ m ∧ i = .int .i64 k ∧ t = .slice A k cap ∧ Own wr w.heap.size 5 .u8 A k cap (lb k n) ∧ Below w.heap.size w wr) (fun _ i _ => m - (intOf i).toNat)
  case atStart => exact ⟨0, 0, _, by omega, rfl, rfl, OWN0.out, B0⟩
  case round =>
    clear OWN0 B0
    obtain ⟨k, cap, A, hk, rfl, rfl, own, BB⟩ := hrel
    have OWN := Lib.hid own
    clear own
    by_cases hlt : k < m
    · have hs := lb_snoc k n
      rw [← pow_8] at hs
      have HS := Lib.hid hs
      clear hs
      go_wp2_with (at_builtin; refine wpList_app1 _ rfl _ _ _ rfl eB OWN.out rfl (by rw [u8_min, u8_max]; omega) rfl (by simp only [maxLen]; omega) (by omega) ?_; intro A1 m1 d1 W1 own1 B1; obtain rfl : m1 = k + 1 := by have := own1.len; have := OWN.out.len; simp_all)
      go_roundw
      case rel => exact ⟨k + 1, d1, A1, by omega, by go_num, rfl, by rw [HS.out]; exact own1, BB.trans B1⟩
      case measure => simp [intOf]; omega
    · obtain rfl : k = m := by omega
      go_wp2
      go_ret
      exact ⟨A, k, cap, rfl, OWN.out, BB⟩

theorem litv_take {l : List Int} {k : Nat} {x : Int} (hx : Hid (l[k]? = some x)) : litv (l.take (k + 1)) = litv (l.take k) + x * 256 ^ k := by
  have h := lit_on (l := l) (p := 0) (k := k) (n := l.length) rfl (by
    rcases Nat.lt_or_ge k l.length with h | h
    · omega
    · rw [List.getElem?_eq_none h] at hx; cases hx.out) (x := x) (by rw [Nat.zero_add]; exact hx)
  simpa [part] using h

set_option maxRecDepth 100000 in
theorem rnumber_b (A : Option Addr) (n c B : Nat) (l : List Int) (w : World) (R : Rd w B .u8 A n l) (hn : n ≤ 4) :
    Calls Try.prog 75 #[.slice A n c] w fun e w' => e = .returned (.int .i64 (litv l)) ∧ w = w' := by
  have HL := Lib.hid R.len
  have HR := Lib.hid (rd_rng255 R)
  have RR := Lib.hid R
  clear R
  go_enter Try.func75, Try.ntmps75
  go_wp2
  go_loop [3, 4] (fun u i => ∃ (k : Nat) (acc : Int), k ≤ n ∧ i = .int .i64 k ∧ u = .int .i64 acc ∧ litv (l.take k) = acc) (fun _ i => n - (intOf i).toNat)
  case atStart => exact ⟨0, 0, by omega, rfl, rfl, by simp [litv]⟩
  case round =>
    obtain ⟨k, acc, hk, rfl, rfl, hh⟩ := hrel
    by_cases hlt : k < n
    · obtain ⟨b, off, x, rfl, cx, x0, x1, hx⟩ := RR.out.byte hlt
      have hr := litv_rng (l.take k) (fun x hx => HR.out x (List.mem_of_mem_take hx))
      have hs := litv_take hx
      rw [hh, List.length_take, HL.out, Nat.min_eq_left (by omega)] at hr
      obtain ⟨g1, g2, g3, g4⟩ := byte_on k x acc (by omega) hr.1 hr.2 x0 x1
      have hp4 := pow256_le (show k + 1 ≤ 4 by omega)
      have e4 : (256 : Int) ^ 4 = 4294967296 := by decide
      rw [hh] at hs
      obtain ⟨y, hy⟩ : ∃ y, x * 256 ^ k = y := ⟨_, rfl⟩
      rw [hy] at g1 g3 g4 hs
      have hpos := Int.mul_nonneg x0 (show (0 : Int) ≤ 256 ^ k by have := pow256_pos k; omega)
      rw [hy] at hpos
      have y1 : acc + y ≤ 4294967295 := by omega
      have acc0 := hr.1
      have HS := Lib.hid hs
      have G1 := Lib.hid g1
      clear hh hr hs hx hy g2 g4 hp4 e4 g1
      go_wp2
      go_round
      case rel => exact ⟨k + 1, acc + y, by omega, by go_num, by rw [G1.out, IntWalk.wrap64_in _ (by omega)], HS.out⟩
      case measure => simp [intOf]; omega
    · obtain rfl : k = n := by omega
      have hf : Hid (litv l = acc) := Lib.hid (by rw [← hh, List.take_of_length_le (by rw [HL.out]; exact Nat.le_refl _)])
      clear hh
      go_wp2
      go_ret
      exact ⟨by rw [hf.out]; rfl, rfl⟩

/-- The widths of a format's fields. -/
def wds (f : Int) : List Int := if f = 1 then [8] else if f = 2 then [8, 8, 8, 8] else if f = 3 then [5, 6, 5] else if f = 4 then [10, 10, 10, 2] else []
theorem rd_block {w : World} {b B n : Nat} {l : List Int} (hl : l.length = n) (hb : b < B) (hr : ∀ x ∈ l, IntKind.i64.min ≤ x ∧ x ≤ IntKind.i64.max) (h : ∀ (j : Nat) x, l[j]? = some x → w.cell? ⟨b, j, none⟩ = some (.int .i64 x)) : Rd w B .i64 (some ⟨b, 0, none⟩) n l :=
  ⟨hl, hr, fun _ => ⟨b, 0, rfl, hb, fun j x hx => by rw [Nat.zero_add]; exact h j x hx⟩⟩

set_option maxRecDepth 100000 in
theorem rwidths_b (f : Int) (w : World) (hf : f = 1 ∨ f = 2 ∨ f = 3 ∨ f = 4) :
    Calls Try.prog 68 #[.int .i64 f] w (GivesRd w .i64 (wds f)) := by
  rcases hf with rfl | rfl | rfl | rfl
  · go_enter Try.func68, Try.ntmps68
    go_wp2
    go_ret
    exact ⟨_, _, _, rfl, Nat.le_refl _, rd_block rfl (by simp) (by decide) (by intro j x h; match j, h with | 0, h => (simp [wds] at h; subst h; simp)), box_below _ _ _⟩
  · go_enter Try.func68, Try.ntmps68
    go_wp2
    go_ret
    exact ⟨_, _, _, rfl, Nat.le_refl _, rd_block rfl (by simp) (by decide) (by intro j x h; match j, h with | 0, h | 1, h | 2, h | 3, h => (simp [wds] at h; subst h; simp)), box_below _ _ _⟩
  · go_enter Try.func68, Try.ntmps68
    go_wp2
    go_ret
    exact ⟨_, _, _, rfl, Nat.le_refl _, rd_block rfl (by simp) (by decide) (by intro j x h; match j, h with | 0, h | 1, h | 2, h => (simp [wds] at h; subst h; simp)), box_below _ _ _⟩
  · go_enter Try.func68, Try.ntmps68
    go_wp2
    go_ret
    exact ⟨_, _, _, rfl, Nat.le_refl _, rd_block rfl (by simp) (by decide) (by intro j x h; match j, h with | 0, h | 1, h | 2, h | 3, h => (simp [wds] at h; subst h; simp)), box_below _ _ _⟩

set_option maxRecDepth 100000 in
theorem rswap_b (f x0 x1 x2 x3 : Int) (w : World) :
    Calls Try.prog 69 #[.int .i64 f, .agg #[.int .i64 x0, .int .i64 x1, .int .i64 x2, .int .i64 x3]] w fun e w' =>
      e = .returned (.agg #[.int .i64 (if f = 3 then x2 else x0), .int .i64 x1, .int .i64 (if f = 3 then x0 else x2), .int .i64 x3]) ∧ Below w.heap.size w w' := by
  obtain ⟨BB, a0, a1, a2, a3, d0, d1, d2, d3, f0, f1, f2, f3⟩ := args1 w (.int .i64 x0) (.int .i64 x1) (.int .i64 x2) (.int .i64 x3) 44
  by_cases h : f = 3
  · subst h
    rw [if_pos rfl, if_pos rfl]
    go_enter Try.func69, Try.ntmps69
    go_wp2
    exact bodyPost_ret (v := .agg #[.int .i64 x2, .int .i64 x1, .int .i64 x0, .int .i64 x3]) (by simp [results, Try.results69, go_sem]) rfl ⟨rfl, ((Below.refl _ _).alloc (Nat.le_refl _) _).alloc (by simp) _⟩
  · rw [if_neg h, if_neg h]
    go_enter Try.func69, Try.ntmps69
    go_wp2
    exact bodyPost_ret (v := .agg #[.int .i64 x0, .int .i64 x1, .int .i64 x2, .int .i64 x3]) (by simp [results, Try.results69, go_sem]) rfl ⟨rfl, ((Below.refl _ _).alloc (Nat.le_refl _) _).alloc (by simp) _⟩

end Go.Proofs.Ytcjlgfadjedgbaa

/- What the reference's Encode of texel formats returns. -/
namespace Go.Proofs.Ytcjlgfadjedgbaa
open Go.RowKit Go.Sort

theorem vecT : RowType Try.prog 44 4 := ⟨fun W => by unfold isAgg; rw [Sem.run_bind, run_underlying Try.underlying44 W]; simp, by kernel_rfl⟩

/-- Halves one behind the other. -/
def hlf (x : Nat → Int) : Nat → List Int
  | 0 => []
  | k + 1 => hlf x k ++ lb 2 (hv (x k))
theorem hlf_len (x : Nat → Int) : ∀ k, (hlf x k).length = 2 * k
  | 0 => rfl
  | k + 1 => by rw [hlf, List.length_append, hlf_len x k, lb_len]; omega

/-- The components of a vector by their numbers. -/
def cmp4 (x0 x1 x2 x3 : Int) (k : Nat) : Int := compv x0 x1 x2 x3 (k : Int)
theorem enc_half {f x0 x1 x2 x3 : Int} (hf : f = 5 ∨ f = 6) : enc f x0 x1 x2 x3 = hlf (cmp4 x0 x1 x2 x3) (ncm f) := by
  rcases hf with rfl | rfl
  · show lb 2 (hv x0) = hlf (cmp4 x0 x1 x2 x3) 1
    simp [hlf, cmp4, compv]
  · show lb 2 (hv x0) ++ (lb 2 (hv x1) ++ (lb 2 (hv x2) ++ lb 2 (hv x3))) = hlf (cmp4 x0 x1 x2 x3) 4
    simp [hlf, cmp4, compv]

theorem compv4 (x0 x1 x2 x3 : Int) : compv x0 x1 x2 x3 0 = x0 ∧ compv x0 x1 x2 x3 1 = x1 ∧ compv x0 x1 x2 x3 2 = x2 ∧ compv x0 x1 x2 x3 3 = x3 := by simp [compv]

theorem rhv_b (x : Int) (w : World) : Calls Try.prog 65 #[.agg #[.int .i64 5, .int .i64 10, .bool true], .int .i64 x] w fun e w' => e = .returned (.int .i64 (hv x)) ∧ Below w.heap.size w w' :=
  rencode_yes 5 10 x true w (by omega) (by omega) (by omega) (by omega)

set_option maxRecDepth 100000 in
set_option maxHeartbeats 1000000 in
theorem rencode_half (f x0 x1 x2 x3 : Int) (w : World) (hf : f = 5 ∨ f = 6) :
    Calls Try.prog 41 #[.int .i64 f, .agg #[.int .i64 x0, .int .i64 x1, .int .i64 x2, .int .i64 x3]] w (GivesRd w .u8 (enc f x0 x1 x2 x3)) := by
  obtain ⟨a0, a1, a2, a3, BB⟩ := box4 w (.int .i64 x0) (.int .i64 x1) (.int .i64 x2) (.int .i64 x3) 44
  have V : VecAt (w.alloc (.cells #[.int .i64 x0, .int .i64 x1, .int .i64 x2, .int .i64 x3] 44)) w.heap.size x0 x1 x2 x3 := ⟨a0, a1, a2, a3⟩
  have e1 : (w.alloc (.cells #[.int .i64 x0, .int .i64 x1, .int .i64 x2, .int .i64 x3] 44)).heap.size = w.heap.size + 1 := by simp
  have own0 := Own.made (w.alloc (.cells #[.int .i64 x0, .int .i64 x1, .int .i64 x2, .int .i64 x3] 44)) 5 .u8
  have B0 := box_below (w.alloc (.cells #[.int .i64 x0, .int .i64 x1, .int .i64 x2, .int .i64 x3] 44)) #[] 5
  rw [e1] at own0 B0
  obtain ⟨W1, hW1⟩ : ∃ W1, W1 = (w.alloc (.cells #[.int .i64 x0, .int .i64 x1, .int .i64 x2, .int .i64 x3] 44)) := ⟨_, rfl⟩
  rw [← hW1] at V own0 B0 BB
  have OWN0 := Lib.hid own0
  have HW1 := Lib.hid hW1
  clear own0 hW1 e1
  rw [enc_half hf]
  have cv := fun W => rvalid_q f W
  rw [show isf f = true by rcases hf with rfl | rfl <;> rfl] at cv
  have cc := fun W => rcomps_q f W
  obtain ⟨L, hL⟩ : ∃ L, ncm f = L := ⟨_, rfl⟩
  have hL4 : L ≤ 4 := by rcases hf with rfl | rfl <;> (rw [← hL]; decide)
  rw [hL] at cc ⊢
  obtain ⟨x, hx⟩ : ∃ x, cmp4 x0 x1 x2 x3 = x := ⟨_, rfl⟩
  have cm := fun (k : Nat) W => rcomp_b x0 x1 x2 x3 (k : Int) W
  have ecm : ∀ k : Nat, compv x0 x1 x2 x3 (k : Int) = x k := fun k => by rw [← hx]; rfl
  simp only [ecm] at cm
  rw [hx]
  have CV := Lib.hid cv
  have CC := Lib.hid cc
  have CM := Lib.hid cm
  clear cv cc cm hL hx ecm a0 a1 a2 a3
  rcases hf with rfl | rfl
  all_goals
    go_enter Try.func41, Try.ntmps41
    go_wp2_with (go_at_call 46; with_reducible refine (CV.out _).mono ?_; rintro _ _ ⟨rfl, rfl⟩)
    go_loopw [5, 6] (fun t i wr => ∃ (k cap : Nat) (A : Option Addr), k ≤ L ∧ i = .int .i64 k ∧ t = .slice A (2 * k) cap ∧ Own wr (w.heap.size + 1) 5 .u8 A (2 * k) cap (hlf x k) ∧ Below (w.heap.size + 1) W1 wr) (fun _ i _ => L - (intOf i).toNat)
    case atStart => exact ⟨0, 0, _, by omega, rfl, rfl, by rw [← HW1.out]; exact OWN0.out, by rw [← HW1.out]; exact B0⟩
    case round =>
      clear OWN0 B0
      obtain ⟨k, cap, A, hk, rfl, rfl, own, B1⟩ := hrel
      have OWN := Lib.hid own
      have VV := V.below (by omega) B1
      clear own
      by_cases hlt : k < L
      · go_wp2_with (go_at_call 63; with_reducible refine (CC.out _).mono ?_; rintro _ _ ⟨rfl, rfl⟩)
        refine wp_region_treeC (fun W => VecAt W w.heap.size x0 x1 x2 x3) (.read 0 (.read 2 (.read 3 (.fork1 1 (.fork1 4 (.fork1 5 (.fork1 6 (.fork1 7 (.read 8 .nil))))))))) (by kernel_rfl) (by kernel_rfl) (fun W hB => VV.on hB) ?_
        intro V1 BC
        refine tree_read rfl ?_
        refine wpQuiet_step (fun K hK => ?_)
        rw [if_pos (by rfl)]
        first | refine quiet_move _ rfl ?_ | refine quiet_assign _ rfl ?_
        go_simp
        refine hK _ ?_
        clear hK K
        refine wpQuiet_nil ?_
        refine tree_read rfl ?_
        refine wpQuiet_step (fun K hK => ?_)
        rw [if_pos (by rfl)]
        refine quiet_vload _ _ rfl vecT (fun W hW => hW) rfl ?_
        go_simp
        refine hK _ ?_
        clear hK K
        refine wpQuiet_nil ?_
        refine tree_read rfl ?_
        refine wpQuiet_step (fun K hK => ?_)
        rw [if_pos (by rfl)]
        first | refine quiet_move _ rfl ?_ | refine quiet_assign _ rfl ?_
        go_simp
        refine hK _ ?_
        clear hK K
        refine wpQuiet_nil ?_
        have V1V := VV.on BC
        have OWN1 := Lib.hid (OWN.out.on BC)
        refine tree_one rfl ?_
        go_wp2_with (go_at_call 66; refine (rhalf_b _).mono ?_; rintro _ V2 ⟨rfl, B⟩; replace V1V := V1V.on B; replace OWN1 := Lib.hid (OWN1.out.on B); replace BC := bon BC B; clear B)
        refine ⟨V1V, ?_⟩
        refine tree_one rfl ?_
        go_wp2_with (go_at_call 67; refine (CM.out _ _).mono ?_; rintro _ V3 ⟨rfl, B⟩; replace V1V := V1V.on B; replace OWN1 := Lib.hid (OWN1.out.on B); replace BC := bon BC B; clear B)
        refine ⟨V1V, ?_⟩
        refine tree_one rfl ?_
        go_wp2_with (go_at_call 65; refine (rhv_b _ _).mono ?_; rintro _ V4 ⟨rfl, B⟩; replace V1V := V1V.on B; replace OWN1 := Lib.hid (OWN1.out.on B); replace BC := bon BC B; clear B)
        refine ⟨V1V, ?_⟩
        refine tree_one rfl ?_
        go_wp2_with (go_at_call 64; refine (rlb_b _ 2 _ (by omega)).mono ?_; rintro _ V5 ⟨A2, n2, d2, rfl, own2, B⟩; replace V1V := V1V.on B; replace OWN1 := Lib.hid (OWN1.out.on B); replace BC := bon BC B; clear B)
        refine ⟨V1V, ?_⟩
        refine tree_one rfl ?_
        obtain rfl : n2 = 2 := by rw [← own2.len, lb_len]
        go_wp2_with (refine wpList_app _ rfl _ _ _ rfl eB OWN1.out rfl own2.rd rfl (by simp only [maxLen]; omega) (by omega) ?_; intro A3 n3 d3 V6 own3 B; obtain rfl : n3 = 2 * (k + 1) := by (have h1 := own3.len; rw [List.length_append, hlf_len, lb_len] at h1; omega))
        refine ⟨V1V.below (by omega) B, ?_⟩
        have B3 := (B1.trans (BC.mono (by have := OWN.out.2.2; omega))).trans B
        refine tree_read rfl ?_
        refine wpQuiet_step (fun K hK => ?_)
        rw [if_pos (by rfl)]
        first | refine quiet_move _ rfl ?_ | refine quiet_assign _ rfl ?_
        go_simp
        refine hK _ ?_
        clear hK K
        refine wpQuiet_nil ?_
        refine tree_nil ?_
        clear OWN OWN1 VV V1V BC own2 B B1
        go_wp2
        go_roundw
        case rel => exact ⟨k + 1, d3, A3, by omega, by go_num, rfl, own3, B3⟩
        case measure => simp [intOf]; omega
      · obtain rfl : k = L := by omega
        go_wp2_with (go_at_call 63; with_reducible refine (CC.out _).mono ?_; rintro _ _ ⟨rfl, rfl⟩)
        go_ret
        exact ⟨A, _, cap, rfl, OWN.out.room, OWN.out.rd, BB.trans (B1.mono (by omega))⟩

end Go.Proofs.Ytcjlgfadjedgbaa

/- What the reference's Encode of texel formats returns: the formats with integers; all formats. -/
namespace Go.Proofs.Ytcjlgfadjedgbaa
open Go.RowKit Go.Sort

/-- Where field k begins; the number of the first k fields. -/
def ats (l : List Int) (k : Nat) : Int := (l.take k).sum
def pks (y : Nat → Int) (l : List Int) : Nat → Int
  | 0 => 0
  | k + 1 => pks y l k + unv (y k) (l.getD k 0) * pw (ats l k)

theorem ats_succ {l : List Int} {k : Nat} {x : Int} (h : l[k]? = some x) : ats l (k + 1) = ats l k + x := by
  obtain ⟨hk, rfl⟩ := List.getElem?_eq_some_iff.1 h
  unfold ats
  rw [List.take_succ_eq_append_getElem hk, List.sum_append]
  simp
theorem ats_nonneg {l : List Int} (hw : ∀ x ∈ l, (1 : Int) ≤ x ∧ x ≤ 16) : ∀ k, 0 ≤ ats l k := by
  intro k
  induction k with
  | zero => simp [ats]
  | succ k ih =>
    rcases Nat.lt_or_ge k l.length with h | h
    · rw [ats_succ (List.getElem?_eq_getElem h)]
      have := hw _ (List.getElem_mem h)
      omega
    · unfold ats at *
      rw [List.take_of_length_le (by omega)]
      rwa [List.take_of_length_le h] at ih
theorem ats_le {l : List Int} (hw : ∀ x ∈ l, (1 : Int) ≤ x ∧ x ≤ 16) {k : Nat} : ats l k ≤ l.sum := by
  have e : l.sum = ats l k + (l.drop k).sum := by unfold ats; rw [← List.sum_append, List.take_append_drop]
  have h0 : ∀ m : List Int, (∀ x ∈ m, (1 : Int) ≤ x ∧ x ≤ 16) → 0 ≤ m.sum := by
    intro m
    induction m with
    | nil => intro _; simp
    | cons a r ih =>
      intro h
      have h1 := h a (by simp)
      have h2 := ih fun x hx => h x (by simp [hx])
      rw [List.sum_cons]
      omega
  have := h0 (l.drop k) fun x hx => hw x (List.mem_of_mem_drop hx)
  omega

/-- One field more. -/
theorem pks_step {y : Nat → Int} {l : List Int} {k : Nat} {x : Int} (hw : ∀ x ∈ l, (1 : Int) ≤ x ∧ x ≤ 16) (hs : l.sum ≤ 32) (hx : l[k]? = some x) (h1 : pks y l k < pw (ats l k)) :
    0 ≤ unv (y k) x * pw (ats l k) ∧ pks y l (k + 1) = pks y l k + unv (y k) x * pw (ats l k) ∧ pks y l (k + 1) < pw (ats l (k + 1)) ∧ pw (ats l (k + 1)) ≤ 4294967296 ∧ 0 ≤ ats l k ∧ ats l k ≤ 32 ∧ (1 ≤ x ∧ x ≤ 16) ∧ ats l (k + 1) = ats l k + x := by
  obtain ⟨hk, hxe⟩ := List.getElem?_eq_some_iff.1 hx
  have hx1 := hw x (by rw [← hxe]; exact List.getElem_mem hk)
  have ha := ats_nonneg hw k
  have hu := unv_rng (x := y k) hx1
  have hp := pw_pos (ats l k)
  have ea := ats_succ hx
  have hle := ats_le hw (k := k + 1)
  have hle0 := ats_le hw (k := k)
  have hpa := pw_add (ats l k) x ha (by omega)
  have hp32 := pw_le (ats l (k + 1)) 32 (by omega)
  have e32 : pw 32 = 4294967296 := by decide
  have ed : l.getD k 0 = x := by rw [List.getD, hx]; rfl
  have em := Int.mul_le_mul_of_nonneg_right hu.2 (show 0 ≤ pw (ats l k) by omega)
  rw [Int.sub_mul, Int.one_mul] at em
  have ec : pw (ats l k) * pw x = pw x * pw (ats l k) := Int.mul_comm _ _
  have e1 : pks y l (k + 1) = pks y l k + unv (y k) x * pw (ats l k) := by rw [pks, ed]
  refine ⟨Int.mul_nonneg hu.1 (by omega), e1, ?_, by omega, ha, by omega, hx1, ea⟩
  rw [e1, ea, hpa]
  omega

theorem wds_len {f : Int} (hf : f = 1 ∨ f = 2 ∨ f = 3 ∨ f = 4) : (wds f).length = ncm f := by rcases hf with rfl | rfl | rfl | rfl <;> rfl
theorem wds_rng {f : Int} (hf : f = 1 ∨ f = 2 ∨ f = 3 ∨ f = 4) : ∀ x ∈ wds f, (1 : Int) ≤ x ∧ x ≤ 16 := by rcases hf with rfl | rfl | rfl | rfl <;> decide
theorem wds_sum {f : Int} (hf : f = 1 ∨ f = 2 ∨ f = 3 ∨ f = 4) : (wds f).sum ≤ 32 := by rcases hf with rfl | rfl | rfl | rfl <;> decide

theorem pks_pack {f x0 x1 x2 x3 : Int} (hf : f = 1 ∨ f = 2 ∨ f = 3 ∨ f = 4) : pks (cmp4 (if f = 3 then x2 else x0) x1 (if f = 3 then x0 else x2) x3) (wds f) (ncm f) = pack f x0 x1 x2 x3 := by
  have p0 : pw 0 = 1 := by decide
  have p11 : pw 11 = 2048 := by decide
  have p16' : pw 16 = 65536 := by decide
  have p20 : pw 20 = 1048576 := by decide
  have p24 : pw 24 = 16777216 := by decide
  have p30 : pw 30 = 1073741824 := by decide
  rcases hf with rfl | rfl | rfl | rfl
  · show 0 + unv (compv x0 x1 x2 x3 0) 8 * pw 0 = unv x0 8
    rw [(compv4 x0 x1 x2 x3).1, p0]; omega
  · show 0 + unv (compv x0 x1 x2 x3 0) 8 * pw 0 + unv (compv x0 x1 x2 x3 1) 8 * pw 8 + unv (compv x0 x1 x2 x3 2) 8 * pw 16 + unv (compv x0 x1 x2 x3 3) 8 * pw 24 = unv x0 8 + unv x1 8 * 256 + unv x2 8 * 65536 + unv x3 8 * 16777216
    obtain ⟨h0, h1, h2, h3⟩ := compv4 x0 x1 x2 x3
    rw [h0, h1, h2, h3, p0, p8, p16', p24]; omega
  · show 0 + unv (compv x2 x1 x0 x3 0) 5 * pw 0 + unv (compv x2 x1 x0 x3 1) 6 * pw 5 + unv (compv x2 x1 x0 x3 2) 5 * pw 11 = unv x2 5 + unv x1 6 * 32 + unv x0 5 * 2048
    obtain ⟨h0, h1, h2, h3⟩ := compv4 x2 x1 x0 x3
    rw [h0, h1, h2, p0, p5, p11]; omega
  · show 0 + unv (compv x0 x1 x2 x3 0) 10 * pw 0 + unv (compv x0 x1 x2 x3 1) 10 * pw 10 + unv (compv x0 x1 x2 x3 2) 10 * pw 20 + unv (compv x0 x1 x2 x3 3) 2 * pw 30 = unv x0 10 + unv x1 10 * 1024 + unv x2 10 * 1048576 + unv x3 2 * 1073741824
    obtain ⟨h0, h1, h2, h3⟩ := compv4 x0 x1 x2 x3
    rw [h0, h1, h2, h3, p0, p10, p20, p30]; omega

theorem enc_int {f x0 x1 x2 x3 : Int} (hf : f = 1 ∨ f = 2 ∨ f = 3 ∨ f = 4) : enc f x0 x1 x2 x3 = lb (nsz f) (pack f x0 x1 x2 x3) := by
  unfold enc
  rw [if_neg (by omega), if_neg (by omega), if_neg (by rcases hf with rfl | rfl | rfl | rfl <;> decide)]

set_option maxRecDepth 100000 in
set_option maxHeartbeats 1000000 in
theorem rencode_int (f x0 x1 x2 x3 : Int) (w : World) (hf : f = 1 ∨ f = 2 ∨ f = 3 ∨ f = 4) :
    Calls Try.prog 41 #[.int .i64 f, .agg #[.int .i64 x0, .int .i64 x1, .int .i64 x2, .int .i64 x3]] w (GivesRd w .u8 (enc f x0 x1 x2 x3)) := by
  obtain ⟨a0, a1, a2, a3, BB⟩ := box4 w (.int .i64 x0) (.int .i64 x1) (.int .i64 x2) (.int .i64 x3) 44
  have hf5 : (f == 5) = false := by simp; omega
  have hf6 : (f == 6) = false := by simp; omega
  have cv := fun W => rvalid_q f W
  rw [show isf f = true by rcases hf with rfl | rfl | rfl | rfl <;> rfl] at cv
  have cs := fun W => rsize_q f W
  have cwd := fun W => rwidths_b f W hf
  have csw := fun W => rswap_b f x0 x1 x2 x3 W
  have cl := fun n W => rlb_b n (nsz f) W (nsz_le f)
  have hw := wds_rng hf
  have hs := wds_sum hf
  have hl4 : (wds f).length ≤ 4 := by rcases hf with rfl | rfl | rfl | rfl <;> decide
  have hpk := pks_pack (x0 := x0) (x1 := x1) (x2 := x2) (x3 := x3) hf
  rw [enc_int hf]
  rw [← wds_len hf] at hpk
  obtain ⟨y0, hy0⟩ : ∃ y, (if f = 3 then x2 else x0) = y := ⟨_, rfl⟩
  obtain ⟨y2, hy2⟩ : ∃ y, (if f = 3 then x0 else x2) = y := ⟨_, rfl⟩
  rw [hy0, hy2] at csw hpk
  obtain ⟨l, hl⟩ : ∃ l, wds f = l := ⟨_, rfl⟩
  rw [hl] at cwd hw hs hpk hl4
  obtain ⟨sz, hsz⟩ : ∃ s, nsz f = s := ⟨_, rfl⟩
  rw [hsz] at cs cl ⊢
  obtain ⟨T, hT⟩ : ∃ T, pack f x0 x1 x2 x3 = T := ⟨_, rfl⟩
  rw [hT] at hpk ⊢
  have CV := Lib.hid cv
  have CS := Lib.hid cs
  have CW := Lib.hid cwd
  have CSW := Lib.hid csw
  have CL := Lib.hid cl
  have HW := Lib.hid hw
  have HS := Lib.hid hs
  have HPK := Lib.hid hpk
  clear cv cs cwd csw cl hw hs hpk hy0 hy2 hl hsz hT hf
  go_enter Try.func41, Try.ntmps41
  go_wp2_with (first
    | (go_at_call 46; (with_reducible refine (CV.out _).mono ?_); rintro _ _ ⟨rfl, rfl⟩)
    | (go_at_call 68; (with_reducible refine (CW.out _).mono ?_); rintro _ W1 ⟨A1, n1, d1, rfl, _, R1, B⟩; replace a0 := cell_below B a0; replace a1 := cell_below B a1; replace a2 := cell_below B a2; replace a3 := cell_below B a3; replace BB := bon BB B; clear B)
    | (go_at_call 69; (with_reducible refine (CSW.out _).mono ?_); rintro _ W2 ⟨rfl, B⟩; replace R1 := R1.on B; replace BB := bon BB B; clear B a0 a1 a2 a3))
  obtain ⟨BA, v0, v1, v2, v3, BX⟩ := box4_on BB (.int .i64 y0) (.int .i64 x1) (.int .i64 y2) (.int .i64 x3) 44
  have hn1 := R1.len
  have hn4 : n1 ≤ 4 := by omega
  replace R1 := R1.on BA
  refine letter (S := fun U => VecAt U W2.heap.size y0 x1 y2 x3 ∧ Rd U U.heap.size .i64 A1 n1 l ∧ Below w.heap.size w U) ?_ ⟨⟨v0, v1, v2, v3⟩, R1, BX⟩
  clear BA v0 v1 v2 v3 BX R1 BB
  generalize W2.heap.size = vb
  rintro U ⟨V, R1, BX⟩
  obtain ⟨y, hy⟩ : ∃ y, cmp4 y0 x1 y2 x3 = y := ⟨_, rfl⟩
  rw [hy] at HPK
  have cm := fun (k : Nat) W => rcomp_b y0 x1 y2 x3 (k : Int) W
  have ecm : ∀ k : Nat, compv y0 x1 y2 x3 (k : Int) = y k := fun k => by rw [← hy]; rfl
  simp only [ecm] at cm
  have CM := Lib.hid cm
  clear cm hy ecm
  go_loopw [9, 10, 11] (fun t u i wr => ∃ (k : Nat) (n at_ : Int), k ≤ n1 ∧ i = .int .i64 k ∧ t = .int .i64 n ∧ u = .int .i64 at_ ∧ pks y l k = n ∧ ats l k = at_ ∧ 0 ≤ n ∧ n < pw at_ ∧ Below U.heap.size U wr) (fun _ _ i _ => n1 - (intOf i).toNat)
  case atStart => exact ⟨0, 0, 0, by omega, rfl, rfl, rfl, rfl, by simp [ats], by omega, by decide, Below.refl _ _⟩
  case round =>
    obtain ⟨k, n, at_, hk, rfl, rfl, rfl, hn, hat, n0, n2, BB⟩ := hrel
    by_cases hlt : k < n1
    · obtain ⟨c0, c1, c2, c3⟩ := V.on BB
      obtain ⟨b, off, x, rfl, cw, x0', x1', hx⟩ := (R1.on BB).int hlt
      obtain ⟨s1, s2, s3, s4, s5, s6, s7, s8⟩ := pks_step (y := y) HW.out HS.out hx.out (by rw [hn, hat]; exact n2)
      have cu := fun W => runorm_b (y k) x W
      obtain ⟨u, hu⟩ : ∃ u, unv (y k) x = u := ⟨_, rfl⟩
      rw [hu] at cu s1 s2
      rw [hn] at s2
      rw [hat] at s1 s2 s5 s6 s8
      have s3' := s3
      rw [s2] at s3'
      have hz := pw_i64_mul u at_ (by omega) (by omega)
      obtain ⟨z, hze⟩ : ∃ z, u * pw at_ = z := ⟨_, rfl⟩
      rw [hze] at hz s1 s2 s3'
      have z2 : n + z ≤ 4294967296 := by omega
      have CU := Lib.hid cu
      have S2 := Lib.hid s2
      have S3 := Lib.hid s3
      have S8 := Lib.hid s8
      clear cu s2 s3 s3' s4 s8 hu hze hx hn hat n2 R1 V
      go_wp2_with fail
      have k_c0 := cell_regrown c0
      have k_c1 := cell_regrown c1
      have k_c2 := cell_regrown c2
      have k_c3 := cell_regrown c3
      have k_cw := cell_regrown cw
      refine wp_region_quiet_below (by kernel_rfl) (by kernel_rfl) ?_
      repeat (first | go_big_quiet_step ((first | (go_at_call 67; exact Calls.regrown_of (CM.out _ _)) | (go_at_call 70; exact Calls.regrown_of (CU.out _)))) | quiet_step ((first | (go_at_call 67; exact Calls.regrown_of (CM.out _ _)) | (go_at_call 70; exact Calls.regrown_of (CU.out _)))))
      refine wpQuiet_nil ?_
      intro W hw'
      have B := below_regrown' hw'
      clear hw' k_c0 k_c1 k_c2 k_c3 k_cw
      replace BB := bon BB B
      replace c0 := cell_below B c0
      replace c1 := cell_below B c1
      replace c2 := cell_below B c2
      replace c3 := cell_below B c3
      replace cw := cell_below B cw
      go_wp2
      go_roundw
      case rel => exact ⟨k + 1, n + z, at_ + x, by omega, by go_num, by go_num, by go_num, S2.out, S8.out, by omega, by rw [← S2.out, ← S8.out]; exact S3.out, BB⟩
      case measure => simp [intOf]; omega
    · obtain rfl : k = n1 := by omega
      have hT : n = T := by rw [← hn, ← HPK.out, hn1]
      subst hT
      clear hn hat n2 V R1
      go_wp2_with (first
        | (go_at_call 48; (with_reducible refine (CS.out _).mono ?_); rintro _ _ ⟨rfl, rfl⟩)
        | (go_at_call 64; (with_reducible refine (CL.out _ _).mono ?_); rintro _ W5 ⟨A5, n5, d5, rfl, own5, B⟩))
      go_ret
      exact ⟨A5, n5, d5, rfl, own5.room, own5.rd, BX.trans ((BB.trans (B.mono BB.size)).mono BX.size)⟩

theorem rencode_b (f x0 x1 x2 x3 : Int) (w : World) :
    Calls Try.prog 41 #[.int .i64 f, .agg #[.int .i64 x0, .int .i64 x1, .int .i64 x2, .int .i64 x3]] w (GivesRd w .u8 (enc f x0 x1 x2 x3)) := by
  rcases fmt_cases f with h | h | h | h | h | h | h
  · exact rencode_int f x0 x1 x2 x3 w (by omega)
  · exact rencode_int f x0 x1 x2 x3 w (by omega)
  · exact rencode_int f x0 x1 x2 x3 w (by omega)
  · exact rencode_int f x0 x1 x2 x3 w (by omega)
  · exact rencode_half f x0 x1 x2 x3 w (by omega)
  · exact rencode_half f x0 x1 x2 x3 w (by omega)
  · obtain ⟨a0, a1, a2, a3, BB⟩ := box4 w (.int .i64 x0) (.int .i64 x1) (.int .i64 x2) (.int .i64 x3) 44
    have cv := fun W => rvalid_q f W
    rw [show isf f = false by unfold isf; rw [nsz_none h]; rfl] at cv
    have CV := Lib.hid cv
    rw [enc_none (nsz_none h)]
    clear cv h
    go_enter Try.func41, Try.ntmps41
    go_wp2_with (go_at_call 46; (with_reducible refine (CV.out _).mono ?_); rintro _ _ ⟨rfl, rfl⟩)
    go_ret
    exact ⟨none, 0, 0, rfl, Nat.le_refl _, Rd.nil _ _ _ _, BB⟩

end Go.Proofs.Ytcjlgfadjedgbaa

/- What the reference's Decode of texel formats returns. -/
namespace Go.Proofs.Ytcjlgfadjedgbaa
open Go.RowKit Go.Sort

theorem rd_sub {w : World} {B n c p q b off : Nat} {l : List Int} (R : Rd w B .u8 (some ⟨b, off, none⟩) n l) (h1 : p < q) (h2 : q ≤ n) (h3 : n ≤ c) : Rd w B .u8 (some ⟨b, off + p, none⟩) (q - p) (part l p (q - p)) := by
  have h := R.cut (i := p) (j := q) (cap := c) (by omega) h2 h3
  rw [if_neg (by omega)] at h
  simpa [add_plain', part] using h

theorem rnum_b (A : Option Addr) (n c B : Nat) (l : List Int) (w : World) (R : Rd w B .u8 A n l) (hn : n ≤ 4) :
    Calls Try.prog 75 #[.slice A n c] w fun e w' => e = .returned (.int .i64 (litv l)) ∧ Below w.heap.size w w' :=
  (rnumber_b A n c B l w R hn).mono fun _ _ ⟨h1, h2⟩ => ⟨h1, h2 ▸ Below.refl _ _⟩

/-- The components so far. -/
def cHf (l : List Int) (k j : Nat) : Int := if j < k then dv (litv (part l (2 * j) 2)) else if j = 3 then 65536 else 0

theorem cHf_with {l : List Int} {k : Nat} {p : Int} (j : Nat) (hp : litv (part l (2 * k) 2) = p) : withv (k : Int) (dv p) (j : Int) (cHf l k j) = cHf l (k + 1) j := by
  unfold withv cHf
  by_cases h : k = j
  · subst h
    rw [if_pos rfl, if_pos (by omega), hp]
  · rw [if_neg (by omega)]
    by_cases h2 : j < k
    · rw [if_pos h2, if_pos (by omega)]
    · rw [if_neg h2, if_neg (show ¬ j < k + 1 by omega)]

theorem litv2 {l : List Int} {p n : Nat} (hl : l.length = n) (hr : ∀ x ∈ l, (0 : Int) ≤ x ∧ x ≤ 255) (hp : p + 2 ≤ n) : 0 ≤ litv (part l p 2) ∧ litv (part l p 2) < 65536 := by
  have h := litv_rng (part l p 2) (part_rng hr)
  rw [part_len (by omega)] at h
  exact h

theorem rdv_b (p : Int) (w : World) (h0 : 0 ≤ p) (h1 : p < 65536) : Calls Try.prog 74 #[.agg #[.int .i64 5, .int .i64 10, .bool true], .int .i64 p] w fun x w' => x = .returned (.int .i64 (dv p)) ∧ Below w.heap.size w w' :=
  rdecode_yes 5 10 p true w (by omega) (by omega) (by omega) (by omega) h0 (by rw [show pw (5 + 10 + sbit true) = 65536 by decide]; exact h1)

theorem dec_half {f : Int} {l : List Int} (hf : f = 5 ∨ f = 6) (hl : l.length = nsz f) (i : Nat) (hi : i < 4) : dec f l i = cHf l (ncm f) i := by
  unfold dec
  rw [if_neg (by rw [hl]; rcases hf with rfl | rfl <;> simp [nsz])]
  rcases hf with rfl | rfl
  · have e : part l 0 2 = l := by unfold part; rw [List.drop_zero, List.take_of_length_le (by rw [hl]; decide)]
    show (if i = 0 then dv (litv l) else if i = 3 then (65536 : Int) else 0) = if i < 1 then _ else _
    by_cases h0 : i = 0
    · subst h0
      rw [if_pos rfl, if_pos (by omega), Nat.mul_zero, e]
    · rw [if_neg h0, if_neg (show ¬ i < 1 by omega)]
  · show dv (litv (part l (2 * i) 2)) = if i < 4 then _ else _
    rw [if_pos hi]

set_option maxRecDepth 100000 in
set_option maxHeartbeats 2000000 in
theorem rdecode_half (f : Int) (A : Option Addr) (n c : Nat) (l : List Int) (w : World) (hf : f = 5 ∨ f = 6) (R : Rd w w.heap.size .u8 A n l) (hl : n = nsz f) (hc : n ≤ c) :
    Calls Try.prog 50 #[.int .i64 f, .slice A n c] w fun e w' =>
      e = .returned (.agg #[.int .i64 (dec f l 0), .int .i64 (dec f l 1), .int .i64 (dec f l 2), .int .i64 (dec f l 3)]) ∧ Below w.heap.size w w' := by
  have cv := fun W => rvalid_q f W
  rw [show isf f = true by rcases hf with rfl | rfl <;> rfl] at cv
  have cs := fun W => rsize_q f W
  have cc := fun W => rcomps_q f W
  rw [← hl] at cs
  have hll : l.length = nsz f := by rw [R.len, hl]
  rw [dec_half hf hll 0 (by omega), dec_half hf hll 1 (by omega), dec_half hf hll 2 (by omega), dec_half hf hll 3 (by omega)]
  obtain ⟨L, hL⟩ : ∃ L, ncm f = L := ⟨_, rfl⟩
  have hL4 : (L = 1 ∧ n = 2) ∨ (L = 4 ∧ n = 8) := by
    rcases hf with rfl | rfl
    · exact .inl ⟨by rw [← hL]; rfl, by rw [hl]; rfl⟩
    · exact .inr ⟨by rw [← hL]; rfl, by rw [hl]; rfl⟩
  rw [hL] at cc ⊢
  have hR := rd_rng255 R
  have hRl := R.len
  have CV := Lib.hid cv
  have CS := Lib.hid cs
  have CC := Lib.hid cc
  have HR := Lib.hid hR
  have HL := Lib.hid hRl
  clear cv cs cc hL hR hll hl hRl
  have D0 := VBox.made w 0 0 0 0 44
  have e1 : (w.alloc (.cells #[.int .i64 0, .int .i64 0, .int .i64 0, .int .i64 0] 44)).heap.size = w.heap.size + 1 := by simp
  have B0 := box_below w #[.int .i64 0, .int .i64 0, .int .i64 0, .int .i64 0] 44
  have D1 := VBox.made (w.alloc (.cells #[.int .i64 0, .int .i64 0, .int .i64 0, .int .i64 0] 44)) 0 0 0 65536 44
  have B1 := box_below (w.alloc (.cells #[.int .i64 0, .int .i64 0, .int .i64 0, .int .i64 0] 44)) #[.int .i64 0, .int .i64 0, .int .i64 0, .int .i64 65536] 44
  have D2 := D0.on B1
  have BX := bon B0 B1
  rw [e1] at D1
  clear D0 B0 B1 e1
  rcases hf with rfl | rfl
  all_goals
    go_enter Try.func50, Try.ntmps50
    go_wp2_with (first
      | (go_at_call 46; (with_reducible refine (CV.out _).mono ?_); rintro _ _ ⟨rfl, rfl⟩)
      | (go_at_call 48; (with_reducible refine (CS.out _).mono ?_); rintro _ _ ⟨rfl, rfl⟩))
    refine letter (S := fun U => VBox U w.heap.size 0 0 0 0 ∧ VBox U (w.heap.size + 1) (cHf l 0 0) (cHf l 0 1) (cHf l 0 2) (cHf l 0 3) ∧ Below w.heap.size w U) ?_ ⟨D2, D1, BX⟩
    clear D2 D1 BX
    rintro U ⟨D2, D1, BX⟩
    go_loopw [6] (fun i wr => ∃ k : Nat, k ≤ L ∧ i = .int .i64 k ∧ VBox wr w.heap.size 0 0 0 0 ∧ VBox wr (w.heap.size + 1) (cHf l k 0) (cHf l k 1) (cHf l k 2) (cHf l k 3) ∧ Below w.heap.size w wr) (fun i _ => L - (intOf i).toNat)
    case atStart => exact ⟨0, by omega, rfl, D2, D1, BX⟩
    case round =>
      clear D2 D1 BX
      obtain ⟨k, hk, rfl, D2, D1, BB⟩ := hrel
      by_cases hlt : k < L
      · obtain ⟨bb, off, x, rfl, _, _, _, _⟩ := R.byte (j := 0) (by omega)
        have RR := (R.below BB).more BB.size
        have RS := rd_sub (p := 2 * k) (q := 2 * k + 2) (c := c) RR (by omega) (by omega) hc
        rw [show 2 * k + 2 - 2 * k = 2 by omega] at RS
        have hp := litv2 HL.out HR.out (p := 2 * k) (by omega)
        have cn := fun d W R => rnum_b (some ⟨bb, off + 2 * k, none⟩) 2 d wr.heap.size (part l (2 * k) 2) W R (by omega)
        obtain ⟨p, hpe⟩ : ∃ p, litv (part l (2 * k) 2) = p := ⟨_, rfl⟩
        rw [hpe] at hp cn
        have cd := fun W => rdv_b p W hp.1 hp.2
        have cw := fun W => rwith_b (cHf l k 0) (cHf l k 1) (cHf l k 2) (cHf l k 3) (k : Int) (dv p) W
        have w0 : withv (k : Int) (dv p) 0 (cHf l k 0) = cHf l (k + 1) 0 := cHf_with 0 hpe
        have w1 : withv (k : Int) (dv p) 1 (cHf l k 1) = cHf l (k + 1) 1 := cHf_with 1 hpe
        have w2 : withv (k : Int) (dv p) 2 (cHf l k 2) = cHf l (k + 1) 2 := cHf_with 2 hpe
        have w3 : withv (k : Int) (dv p) 3 (cHf l k 3) = cHf l (k + 1) 3 := cHf_with 3 hpe
        rw [w0, w1, w2, w3] at cw
        have hcp : ¬ c = 2 * k := by omega
        have hc2 : 2 * k + 2 ≤ c := by omega
        have CN := Lib.hid cn
        have CD := Lib.hid cd
        have CW := Lib.hid cw
        have HRS := Lib.hid RS
        have DD := Lib.hid D1
        obtain ⟨⟨c0, c1, c2, c3⟩, _⟩ := D1
        clear cn cd cw hpe hp RR RS w0 w1 w2 w3
        rcases (show k = 0 ∨ k = 1 ∨ k = 2 ∨ k = 3 by omega) with rfl | rfl | rfl | rfl
        all_goals first
          | (exfalso; omega)
          | skip
        all_goals
          simp only [Nat.reduceMul, Nat.reduceAdd, Nat.mul_zero, Nat.add_zero, Nat.zero_add] at CN CD CW HRS hcp hc2
          go_wp2_with (go_at_call 63; (with_reducible refine (CC.out _).mono ?_); rintro _ _ ⟨rfl, rfl⟩)
          have k_c0 := cell_regrown c0
          have k_c1 := cell_regrown c1
          have k_c2 := cell_regrown c2
          have k_c3 := cell_regrown c3
          refine wp_region_tail (n := 13) (by kernel_rfl) (by kernel_rfl) ?_
          simp only [List.take_succ_cons, List.take_zero, List.drop_succ_cons, List.drop_zero]
          repeat (first | go_big_quiet_step ((first | (go_at_call 66; exact Calls.regrown_of (rhalf_b _)) | (go_at_call 75; exact Calls.regrown_of (CN.out _ _ (HRS.out.below (below_regrown _ _ _)))) | (go_at_call 74; exact Calls.regrown_of (CD.out _)) | (go_at_call 73; exact Calls.regrown_of (CW.out _)))) | quiet_step ((first | (go_at_call 66; exact Calls.regrown_of (rhalf_b _)) | (go_at_call 75; exact Calls.regrown_of (CN.out _ _ (HRS.out.below (below_regrown _ _ _)))) | (go_at_call 74; exact Calls.regrown_of (CD.out _)) | (go_at_call 73; exact Calls.regrown_of (CW.out _)))))
          refine wpQuiet_nil ?_
          intro W hw'
          have B := below_regrown' hw'
          clear hw' k_c0 k_c1 k_c2 k_c3
          replace BB := bon BB B
          replace c0 := cell_below B c0
          replace c1 := cell_below B c1
          replace c2 := cell_below B c2
          replace c3 := cell_below B c3
          have DV := DD.out.on B
          replace D2 := D2.on B
          go_wp2_with (refine wpList_vset rfl _ _ _ rfl _ _ _ _ rfl rfl DV (by kernel_rfl) ?_; intro V2 B2 D3 hD _)
          go_roundw
          case rel => exact ⟨_, by omega, by go_num, hD _ _ _ _ _ (by omega) D2, D3, BB.trans (B2.mono (by omega))⟩
          case measure => simp [intOf]; omega
      · obtain rfl : k = L := by omega
        obtain ⟨⟨c0, c1, c2, c3⟩, _⟩ := D1
        go_wp2_with (first
          | (go_at_call 63; (with_reducible refine (CC.out _).mono ?_); rintro _ _ ⟨rfl, rfl⟩)
          | (refine wpList_vset rfl _ _ _ rfl _ _ _ _ rfl rfl D2 (by kernel_rfl) ?_; intro V2 B2 D3 hD _))
        obtain ⟨⟨d0, d1, d2, d3⟩, _⟩ := D3
        exact bodyPost_ret (v := .agg #[.int .i64 (cHf l k 0), .int .i64 (cHf l k 1), .int .i64 (cHf l k 2), .int .i64 (cHf l k 3)]) (by simp [results, Try.results50, go_sem, *]) rfl ⟨rfl, BB.trans (B2.mono (by omega))⟩

end Go.Proofs.Ytcjlgfadjedgbaa

/- What the reference's Decode of texel formats returns: the formats with integers; all formats; Quantize. -/
namespace Go.Proofs.Ytcjlgfadjedgbaa
open Go.RowKit Go.Sort

/-- The widths, in a block of their own. -/
def WGives (W : World) (l : List Int) (x : Ending) (w' : World) : Prop :=
  ∃ b, x = .returned (.slice (some ⟨b, 0, none⟩) l.length l.length) ∧ W.heap.size ≤ b ∧ (∀ (j : Nat) v, l[j]? = some v → w'.cell? ⟨b, j, none⟩ = some (.int .i64 v)) ∧ Below W.heap.size W w'

set_option maxRecDepth 100000 in
theorem rwidths_n (f : Int) (w : World) (hf : f = 1 ∨ f = 2 ∨ f = 3 ∨ f = 4) : Calls Try.prog 68 #[.int .i64 f] w (WGives w (wds f)) := by
  rcases hf with rfl | rfl | rfl | rfl
  · go_enter Try.func68, Try.ntmps68
    go_wp2
    go_ret
    exact ⟨_, rfl, Nat.le_refl _, (by intro j x h; match j, h with | 0, h => (simp [wds] at h; subst h; simp)), box_below _ _ _⟩
  · go_enter Try.func68, Try.ntmps68
    go_wp2
    go_ret
    exact ⟨_, rfl, Nat.le_refl _, (by intro j x h; match j, h with | 0, h | 1, h | 2, h | 3, h => (simp [wds] at h; subst h; simp)), box_below _ _ _⟩
  · go_enter Try.func68, Try.ntmps68
    go_wp2
    go_ret
    exact ⟨_, rfl, Nat.le_refl _, (by intro j x h; match j, h with | 0, h | 1, h | 2, h => (simp [wds] at h; subst h; simp)), box_below _ _ _⟩
  · go_enter Try.func68, Try.ntmps68
    go_wp2
    go_ret
    exact ⟨_, rfl, Nat.le_refl _, (by intro j x h; match j, h with | 0, h | 1, h | 2, h | 3, h => (simp [wds] at h; subst h; simp)), box_below _ _ _⟩

/-- The components so far. -/
def cIf (N : Int) (l : List Int) (k j : Nat) : Int := if j < k then fromv (N / pw (ats l j) % pw (l.getD j 0)) (l.getD j 0) else if j = 3 then 65536 else 0

theorem cIf_with {N : Int} {l : List Int} {k : Nat} {x g : Int} (j : Nat) (hx : l[k]? = some x) (hg : fromv (N / pw (ats l k) % pw x) x = g) : withv (k : Int) g (j : Int) (cIf N l k j) = cIf N l (k + 1) j := by
  have ed : l.getD k 0 = x := by rw [List.getD, hx]; rfl
  unfold withv cIf
  by_cases h : k = j
  · subst h
    rw [if_pos rfl, if_pos (by omega), ed, hg]
  · rw [if_neg (by omega)]
    by_cases h2 : j < k
    · rw [if_pos h2, if_pos (by omega)]
    · rw [if_neg h2, if_neg (show ¬ j < k + 1 by omega)]

theorem dec_int {f : Int} {l : List Int} (hf : f = 1 ∨ f = 2 ∨ f = 3 ∨ f = 4) (hl : l.length = nsz f) (hr : ∀ x ∈ l, (0 : Int) ≤ x ∧ x ≤ 255) :
    dec f l 0 = (if f = 3 then cIf (litv l) (wds f) (ncm f) 2 else cIf (litv l) (wds f) (ncm f) 0) ∧ dec f l 1 = cIf (litv l) (wds f) (ncm f) 1 ∧
    dec f l 2 = (if f = 3 then cIf (litv l) (wds f) (ncm f) 0 else cIf (litv l) (wds f) (ncm f) 2) ∧ dec f l 3 = cIf (litv l) (wds f) (ncm f) 3 := by
  have p0 : pw 0 = 1 := by decide
  have p11 : pw 11 = 2048 := by decide
  have p16' : pw 16 = 65536 := by decide
  have p20 : pw 20 = 1048576 := by decide
  have p24 : pw 24 = 16777216 := by decide
  have p30 : pw 30 = 1073741824 := by decide
  have e : ∀ i, dec f l i = fields f (litv l) i := fun i => by
    unfold dec
    rw [if_neg (by rw [hl]; rcases hf with rfl | rfl | rfl | rfl <;> simp [nsz]), if_neg (by omega), if_neg (by omega)]
  have hn := litv_rng l hr
  rw [hl] at hn
  rw [e, e, e, e]
  obtain ⟨n, hne⟩ : ∃ n, litv l = n := ⟨_, rfl⟩
  rw [hne] at hn ⊢
  rcases hf with rfl | rfl | rfl | rfl
  · have hn1 : n < 256 := hn.2
    refine ⟨?_, rfl, rfl, rfl⟩
    show fromv n 8 = fromv (n / pw 0 % pw 8) 8
    rw [p0, p8, Int.ediv_one, Int.emod_eq_of_lt hn.1 hn1]
  · refine ⟨?_, ?_, ?_, ?_⟩
    · show fromv (n / 1 % 256) 8 = fromv (n / pw 0 % pw 8) 8
      rw [p0, p8]
    · show fromv (n / 256 % 256) 8 = fromv (n / pw 8 % pw 8) 8
      rw [p8]
    · show fromv (n / 65536 % 256) 8 = fromv (n / pw 16 % pw 8) 8
      rw [p16', p8]
    · show fromv (n / 16777216 % 256) 8 = fromv (n / pw 24 % pw 8) 8
      rw [p24, p8]
  · refine ⟨?_, ?_, ?_, rfl⟩
    · show fromv (n / 2048 % 32) 5 = fromv (n / pw 11 % pw 5) 5
      rw [p11, p5]
    · show fromv (n / 32 % 64) 6 = fromv (n / pw 5 % pw 6) 6
      rw [p5, p6]
    · show fromv (n % 32) 5 = fromv (n / pw 0 % pw 5) 5
      rw [p0, p5, Int.ediv_one]
  · refine ⟨?_, ?_, ?_, ?_⟩
    · show fromv (n / 1 % 1024) 10 = fromv (n / pw 0 % pw 10) 10
      rw [p0, p10]
    · show fromv (n / 1024 % 1024) 10 = fromv (n / pw 10 % pw 10) 10
      rw [p10]
    · show fromv (n / 1048576 % 1024) 10 = fromv (n / pw 20 % pw 10) 10
      rw [p20, p10]
    · show fromv (n / 1073741824 % 4) 2 = fromv (n / pw 30 % pw 2) 2
      rw [p30, p2]

set_option maxRecDepth 100000 in
set_option maxHeartbeats 2000000 in
theorem rdecode_int (f : Int) (A : Option Addr) (n c : Nat) (l : List Int) (w : World) (hf : f = 1 ∨ f = 2 ∨ f = 3 ∨ f = 4) (R : Rd w w.heap.size .u8 A n l) (hl : n = nsz f) :
    Calls Try.prog 50 #[.int .i64 f, .slice A n c] w fun e w' =>
      e = .returned (.agg #[.int .i64 (dec f l 0), .int .i64 (dec f l 1), .int .i64 (dec f l 2), .int .i64 (dec f l 3)]) ∧ Below w.heap.size w w' := by
  have hf5 : (f == 5) = false := by simp; omega
  have hf6 : (f == 6) = false := by simp; omega
  have cv := fun W => rvalid_q f W
  rw [show isf f = true by rcases hf with rfl | rfl | rfl | rfl <;> rfl] at cv
  have cs := fun W => rsize_q f W
  rw [← hl] at cs
  have hll : l.length = nsz f := by rw [R.len, hl]
  have hn4 : n ≤ 4 := by rw [hl]; rcases hf with rfl | rfl | rfl | rfl <;> decide
  obtain ⟨z0, z1, z2, z3⟩ := dec_int hf hll (rd_rng255 R)
  rw [z0, z1, z2, z3]
  have cwd := fun W => rwidths_n f W hf
  have hw := wds_rng hf
  have hs := wds_sum hf
  have hl4 : (wds f).length ≤ 4 := by rcases hf with rfl | rfl | rfl | rfl <;> decide
  rw [← wds_len hf]
  have csw := fun W => rswap_b f (cIf (litv l) (wds f) (wds f).length 0) (cIf (litv l) (wds f) (wds f).length 1) (cIf (litv l) (wds f) (wds f).length 2) (cIf (litv l) (wds f) (wds f).length 3) W
  obtain ⟨r0, hr0⟩ : ∃ r, (if f = 3 then cIf (litv l) (wds f) (wds f).length 2 else cIf (litv l) (wds f) (wds f).length 0) = r := ⟨_, rfl⟩
  obtain ⟨r2, hr2⟩ : ∃ r, (if f = 3 then cIf (litv l) (wds f) (wds f).length 0 else cIf (litv l) (wds f) (wds f).length 2) = r := ⟨_, rfl⟩
  rw [hr0, hr2] at csw ⊢
  clear hr0 hr2
  obtain ⟨wl, hwl⟩ : ∃ l, wds f = l := ⟨_, rfl⟩
  rw [hwl] at cwd hw hs hl4 csw ⊢
  have hN := (litv_rng l (rd_rng255 R)).1
  have hN2 := (litv_rng l (rd_rng255 R)).2
  have hN4 := pow256_le (show l.length ≤ 4 by omega)
  have e4 : (256 : Int) ^ 4 = 4294967296 := by decide
  have cn := fun W R => rnumber_b A n c w.heap.size l W R hn4
  obtain ⟨N, hNe⟩ : ∃ N, litv l = N := ⟨_, rfl⟩
  rw [hNe] at cn hN hN2 csw ⊢
  have hN5 : N < 4294967296 := by omega
  have CV := Lib.hid cv
  have CS := Lib.hid cs
  have CWD := Lib.hid cwd
  have CSW := Lib.hid csw
  have CN := Lib.hid cn
  have HW := Lib.hid hw
  have HS := Lib.hid hs
  clear cv cs cwd csw cn hw hs hN2 hN4 e4 hNe hwl hll hl z0 z1 z2 z3 hf
  have D0 := VBox.made w 0 0 0 0 44
  have e1 : (w.alloc (.cells #[.int .i64 0, .int .i64 0, .int .i64 0, .int .i64 0] 44)).heap.size = w.heap.size + 1 := by simp
  have B0 := box_below w #[.int .i64 0, .int .i64 0, .int .i64 0, .int .i64 0] 44
  have D1 := VBox.made (w.alloc (.cells #[.int .i64 0, .int .i64 0, .int .i64 0, .int .i64 0] 44)) 0 0 0 65536 44
  have B1 := box_below (w.alloc (.cells #[.int .i64 0, .int .i64 0, .int .i64 0, .int .i64 0] 44)) #[.int .i64 0, .int .i64 0, .int .i64 0, .int .i64 65536] 44
  have D2 := D0.on B1
  have BX := bon B0 B1
  rw [e1] at D1
  clear D0 B0 B1 e1
  go_enter Try.func50, Try.ntmps50
  go_wp2_with (first
    | (go_at_call 46; (with_reducible refine (CV.out _).mono ?_); rintro _ _ ⟨rfl, rfl⟩)
    | (go_at_call 48; (with_reducible refine (CS.out _).mono ?_); rintro _ _ ⟨rfl, rfl⟩)
    | (go_at_call 68; (with_reducible refine (CWD.out _).mono ?_); rintro _ W1 ⟨wb, rfl, wb0, wc, B⟩; replace D2 := D2.on B; replace D1 := D1.on B; replace BX := bon BX B)
    | (go_at_call 75; (with_reducible refine (CN.out _ (R.below BX)).mono ?_); rintro _ _ ⟨rfl, rfl⟩))
  have hwb : wb ≠ w.heap.size + 1 := by simp at wb0; omega
  clear B wb0
  go_loopw [8, 9] (fun t i wr => ∃ (k : Nat) (m : Int), k ≤ wl.length ∧ i = .int .i64 k ∧ t = .int .i64 m ∧ N / pw (ats wl k) = m ∧ VBox wr w.heap.size 0 0 0 0 ∧ VBox wr (w.heap.size + 1) (cIf N wl k 0) (cIf N wl k 1) (cIf N wl k 2) (cIf N wl k 3) ∧ (∀ (j : Nat) v, wl[j]? = some v → wr.cell? ⟨wb, j, none⟩ = some (.int .i64 v)) ∧ Below w.heap.size w wr) (fun _ i _ => wl.length - (intOf i).toNat)
  case atStart => exact ⟨0, N, by omega, rfl, rfl, by show N / pw 0 = N; rw [show pw 0 = 1 by decide, Int.ediv_one], D2, D1, wc, BX⟩
  case round =>
    clear D2 D1 wc BX
    obtain ⟨k, m, hk, rfl, rfl, hm, D2, D1, wc, BB⟩ := hrel
    have m0 : 0 ≤ m := by rw [← hm]; exact Int.ediv_nonneg hN (by have := pw_pos (ats wl k); omega)
    have m1 : m ≤ 4294967295 := by
      have h1 := Int.ediv_le_self (pw (ats wl k)) hN
      omega
    by_cases hlt : k < wl.length
    · obtain ⟨x, hx⟩ : ∃ x, wl[k]? = some x := ⟨_, List.getElem?_eq_getElem hlt⟩
      have cw := wc k x hx
      have hx1 := HW.out x (List.mem_of_getElem? hx)
      have ha0 := ats_nonneg HW.out k
      have hat := ats_succ hx
      have hpx := pw_16b hx1
      have hadd := pw_add (ats wl k) x ha0 (by omega)
      have h1 := pw_i64 x (by omega)
      have hm2 : m / pw x = N / pw (ats wl (k + 1)) := by rw [hat, hadd, ← hm, Int.ediv_ediv_of_nonneg (by have := pw_pos (ats wl k); omega)]
      have ht : m.tmod (pw x) = m % pw x := Int.tmod_eq_emod_of_nonneg m0
      have cg := fun W => rfromu_b (m % pw x) x W
      obtain ⟨g, hg⟩ : ∃ g, fromv (m % pw x) x = g := ⟨_, rfl⟩
      rw [hg] at cg
      rw [← hm] at hg
      have cwv := fun W => rwith_b (cIf N wl k 0) (cIf N wl k 1) (cIf N wl k 2) (cIf N wl k 3) (k : Int) g W
      have w0 : withv (k : Int) g 0 (cIf N wl k 0) = cIf N wl (k + 1) 0 := cIf_with 0 hx hg
      have w1 : withv (k : Int) g 1 (cIf N wl k 1) = cIf N wl (k + 1) 1 := cIf_with 1 hx hg
      have w2 : withv (k : Int) g 2 (cIf N wl k 2) = cIf N wl (k + 1) 2 := cIf_with 2 hx hg
      have w3 : withv (k : Int) g 3 (cIf N wl k 3) = cIf N wl (k + 1) 3 := cIf_with 3 hx hg
      rw [w0, w1, w2, w3] at cwv
      have hsh : m / 2 ^ x.toNat = N / pw (ats wl (k + 1)) := hm2
      obtain ⟨p, hp⟩ : ∃ p, pw x = p := ⟨_, rfl⟩
      rw [hp] at h1 ht cg hpx
      obtain ⟨q, hq⟩ : ∃ q, m % p = q := ⟨_, rfl⟩
      rw [hq] at ht cg
      obtain ⟨m2, hm2e⟩ : ∃ m2, N / pw (ats wl (k + 1)) = m2 := ⟨_, rfl⟩
      rw [hm2e] at hsh
      have HM2 := Lib.hid hm2e
      have HX := Lib.hid hx
      have HWC := Lib.hid wc
      have CG := Lib.hid cg
      have CWV := Lib.hid cwv
      have DD := Lib.hid D1
      have hkn := hlt
      obtain ⟨⟨c0, c1, c2, c3⟩, _⟩ := D1
      obtain ⟨p0, p1⟩ := hpx
      obtain ⟨x0, x1⟩ := hx1
      clear cg cwv w0 w1 w2 w3 hg hm hm2 hm2e hq hp hat hadd hx wc
      go_wp2_with fail
      have k_c0 := cell_regrown c0
      have k_c1 := cell_regrown c1
      have k_c2 := cell_regrown c2
      have k_c3 := cell_regrown c3
      have k_cw := cell_regrown cw
      refine wp_region_tail (n := 15) (by kernel_rfl) (by kernel_rfl) ?_
      simp only [List.take_succ_cons, List.take_zero, List.drop_succ_cons, List.drop_zero]
      repeat (first | go_big_quiet_step ((first | (go_at_call 76; exact Calls.regrown_of (CG.out _)) | (go_at_call 73; exact Calls.regrown_of (CWV.out _)))) | quiet_step ((first | (go_at_call 76; exact Calls.regrown_of (CG.out _)) | (go_at_call 73; exact Calls.regrown_of (CWV.out _)))))
      refine wpQuiet_nil ?_
      intro W hw'
      have B := below_regrown' hw'
      clear hw' k_c0 k_c1 k_c2 k_c3 k_cw
      replace BB := bon BB B
      replace c0 := cell_below B c0
      replace c1 := cell_below B c1
      replace c2 := cell_below B c2
      replace c3 := cell_below B c3
      replace cw := cell_below B cw
      have DV := DD.out.on B
      have WC := Lib.hid (fun j v hj => cell_below B (HWC.out j v hj))
      replace D2 := D2.on B
      go_wp2_with (refine wpList_vset rfl _ _ _ rfl _ _ _ _ rfl rfl DV (by kernel_rfl) ?_; intro V2 B2 D3 hD hc'; have hc := Lib.hid hc'; clear hc'; replace cw := (hc.out ⟨wb, k, none⟩ hwb).trans cw)
      go_roundw
      case rel => exact ⟨k + 1, m2, by omega, by go_num, rfl, HM2.out, hD _ _ _ _ _ (by omega) D2, D3, fun j v hj => (hc.out ⟨wb, j, none⟩ hwb).trans (WC.out j v hj), BB.trans (B2.mono (by omega))⟩
      case measure => simp [intOf]; omega
    · obtain rfl : k = wl.length := by omega
      obtain ⟨⟨c0, c1, c2, c3⟩, _⟩ := D1
      go_wp2_with (first
        | (go_at_call 69; (with_reducible refine (CSW.out _).mono ?_); rintro _ W3 ⟨rfl, B3⟩; replace D2 := D2.on B3; replace BB := bon BB B3)
        | (refine wpList_vset rfl _ _ _ rfl _ _ _ _ rfl rfl D2 (by kernel_rfl) ?_; intro V2 B2 D3 hD _))
      obtain ⟨⟨d0, d1, d2, d3⟩, _⟩ := D3
      exact bodyPost_ret (v := .agg #[.int .i64 r0, .int .i64 (cIf N wl wl.length 1), .int .i64 r2, .int .i64 (cIf N wl wl.length 3)]) (by simp [results, Try.results50, go_sem, *]) rfl ⟨rfl, BB.trans (B2.mono (by omega))⟩

/-- A vector of a texel. -/
def GivesV (W : World) (y : Nat → Int) (x : Ending) (w' : World) : Prop := x = .returned (.agg #[.int .i64 (y 0), .int .i64 (y 1), .int .i64 (y 2), .int .i64 (y 3)]) ∧ Below W.heap.size W w'

set_option maxRecDepth 100000 in
theorem rdecode_none (f : Int) (A : Option Addr) (n c : Nat) (l : List Int) (w : World) (hl : l.length = n) (h : nsz f = 0 ∨ n ≠ nsz f) :
    Calls Try.prog 50 #[.int .i64 f, .slice A n c] w (GivesV w (dec f l)) := by
  have B0 := box_below w #[.int .i64 0, .int .i64 0, .int .i64 0, .int .i64 0] 44
  unfold GivesV
  rw [dec_none (by rw [hl]; exact h), dec_none (by rw [hl]; exact h), dec_none (by rw [hl]; exact h), dec_none (by rw [hl]; exact h)]
  have cv := fun W => rvalid_q f W
  have cs := fun W => rsize_q f W
  rcases h with h | h
  · rw [show isf f = false by unfold isf; rw [h]; rfl] at cv
    have CV := Lib.hid cv
    clear cv cs h
    go_enter Try.func50, Try.ntmps50
    go_wp2_with (go_at_call 46; (with_reducible refine (CV.out _).mono ?_); rintro _ _ ⟨rfl, rfl⟩)
    exact bodyPost_ret (v := .agg #[.int .i64 0, .int .i64 0, .int .i64 0, .int .i64 0]) (by simp [results, Try.results50, go_sem]) rfl ⟨rfl, B0⟩
  · by_cases hz : nsz f = 0
    · rw [show isf f = false by unfold isf; rw [hz]; rfl] at cv
      have CV := Lib.hid cv
      clear cv cs h
      go_enter Try.func50, Try.ntmps50
      go_wp2_with (go_at_call 46; (with_reducible refine (CV.out _).mono ?_); rintro _ _ ⟨rfl, rfl⟩)
      exact bodyPost_ret (v := .agg #[.int .i64 0, .int .i64 0, .int .i64 0, .int .i64 0]) (by simp [results, Try.results50, go_sem]) rfl ⟨rfl, B0⟩
    · rw [show isf f = true by unfold isf; simp [hz]] at cv
      obtain ⟨s, hs⟩ : ∃ s, nsz f = s := ⟨_, rfl⟩
      rw [hs] at cs h
      have CV := Lib.hid cv
      have CS := Lib.hid cs
      have hne : ((n : Int) != (s : Int)) = true := by simp; omega
      clear cv cs h hz hs
      go_enter Try.func50, Try.ntmps50
      go_wp2_with (first
        | (go_at_call 46; (with_reducible refine (CV.out _).mono ?_); rintro _ _ ⟨rfl, rfl⟩)
        | (go_at_call 48; (with_reducible refine (CS.out _).mono ?_); rintro _ _ ⟨rfl, rfl⟩))
      exact bodyPost_ret (v := .agg #[.int .i64 0, .int .i64 0, .int .i64 0, .int .i64 0]) (by simp [results, Try.results50, go_sem]) rfl ⟨rfl, B0⟩

theorem rdecode_b (f : Int) (A : Option Addr) (n c : Nat) (l : List Int) (w : World) (R : Rd w w.heap.size .u8 A n l) (hc : n ≤ c) :
    Calls Try.prog 50 #[.int .i64 f, .slice A n c] w (GivesV w (dec f l)) := by
  by_cases hl : n = nsz f
  · rcases fmt_cases f with h | h | h | h | h | h | h
    · exact rdecode_int f A n c l w (by omega) R hl
    · exact rdecode_int f A n c l w (by omega) R hl
    · exact rdecode_int f A n c l w (by omega) R hl
    · exact rdecode_int f A n c l w (by omega) R hl
    · exact rdecode_half f A n c l w (by omega) R hl hc
    · exact rdecode_half f A n c l w (by omega) R hl hc
    · exact rdecode_none f A n c l w R.len (.inl (nsz_none h))
  · exact rdecode_none f A n c l w R.len (.inr hl)

set_option maxRecDepth 100000 in
theorem rquant_b (f x0 x1 x2 x3 : Int) (w : World) :
    Calls Try.prog 23 #[.int .i64 f, .agg #[.int .i64 x0, .int .i64 x1, .int .i64 x2, .int .i64 x3]] w (GivesV w (qnt f x0 x1 x2 x3)) := by
  have z1 : (w.alloc (.cells #[.int .i64 x0, .int .i64 x1, .int .i64 x2, .int .i64 x3] 44)).heap.size = w.heap.size + 1 := by simp
  have D0 := VBox.made w x0 x1 x2 x3 44
  have B0 := box_below w #[.int .i64 x0, .int .i64 x1, .int .i64 x2, .int .i64 x3] 44
  have D1 := VBox.made (w.alloc (.cells #[.int .i64 x0, .int .i64 x1, .int .i64 x2, .int .i64 x3] 44)) 0 0 0 0 44
  have B1 := box_below (w.alloc (.cells #[.int .i64 x0, .int .i64 x1, .int .i64 x2, .int .i64 x3] 44)) #[.int .i64 0, .int .i64 0, .int .i64 0, .int .i64 0] 44
  obtain ⟨⟨c0, c1, c2, c3⟩, _⟩ := D0.on B1
  have BB := bon B0 B1
  rw [z1] at D1
  have ce := fun W => rencode_b f x0 x1 x2 x3 W
  have CE := Lib.hid ce
  unfold qnt
  obtain ⟨l, hl⟩ : ∃ l, enc f x0 x1 x2 x3 = l := ⟨_, rfl⟩
  rw [hl] at CE
  have cd := fun A n c W R hc => rdecode_b f A n c l W R hc
  obtain ⟨y, hy⟩ : ∃ y : Nat → Int, (fun i => dec f (enc f x0 x1 x2 x3) i) = y := ⟨_, rfl⟩
  rw [hy]
  have ey : dec f l = y := by rw [← hy, hl]
  rw [ey] at cd
  have CD := Lib.hid cd
  clear ce cd hl hy ey B0 B1 D0 z1
  go_enter Try.func23, Try.ntmps23
  go_wp2_with (first
    | (go_at_call 41; (with_reducible refine (CE.out _).mono ?_); rintro _ W1 ⟨A1, n1, d1, rfl, hc1, R1, B⟩; replace D1 := D1.on B; replace BB := bon BB B; clear B)
    | (go_at_call 50; (with_reducible refine (CD.out _ _ _ _ R1 hc1).mono ?_); rintro _ W2 ⟨rfl, B⟩; replace D1 := D1.on B; replace BB := bon BB B; clear B)
    | (refine wpList_vset rfl _ _ _ rfl _ _ _ _ rfl rfl D1 (by kernel_rfl) ?_; intro V2 B2 D3 hD _))
  obtain ⟨⟨d0, d1, d2, d3⟩, _⟩ := D3
  exact bodyPost_ret (v := .agg #[.int .i64 (y 0), .int .i64 (y 1), .int .i64 (y 2), .int .i64 (y 3)]) (by simp [results, Try.results23, go_sem, *]) rfl ⟨rfl, BB.trans (B2.mono (by omega))⟩

end Go.Proofs.Ytcjlgfadjedgbaa
