/- Log2 of the reference, length and extent, Footprint of both: the level of detail of a step. -/
import Derived.Test.YtoipmldbjciinaaS5
namespace Go.Proofs.Ytoipmldbjciinaa
open Go.RowKit Go.Sort
set_option linter.unusedVariables false

theorem mx_assoc (p c d : Int) : mx (mx p c) d = mx p (mx c d) := by unfold mx; repeat' split <;> try omega

def ext (x : Int) : Int := mx (sat x) (-sat x)

theorem exv_ext (x n : Int) : exv x n = ext x * clampv n 1 64 := rfl
theorem ext_rng (x : Int) : 0 ≤ ext x ∧ ext x ≤ 536870911 := by
  have := sat_bd x
  unfold ext mx
  split <;> omega
theorem cl_rng (n : Int) : 1 ≤ clampv n 1 64 ∧ clampv n 1 64 ≤ 64 := by unfold clampv; grind
theorem exv_rng (x n : Int) : -9223372036854775808 ≤ ext x * clampv n 1 64 ∧ ext x * clampv n 1 64 ≤ 9223372036854775807 := by
  have h1 := ext_rng x
  have h2 := cl_rng n
  have h3 : 0 ≤ ext x * clampv n 1 64 := Int.mul_nonneg h1.1 (by omega)
  have h4 : ext x * clampv n 1 64 ≤ 536870911 * 64 := Int.mul_le_mul h1.2 h2.2 (by omega) (by omega)
  omega

set_option maxRecDepth 100000 in
set_option maxHeartbeats 2000000 in
theorem slen_b (x : Int) (w : World) : Calls Try.prog 27 #[.int .i64 x] w fun e w' => e = .returned (.int .i64 (ext x)) ∧ Below w.heap.size w w' := by
  have BB := Below.refl w.heap.size w
  have hmax : ∀ (at_ : Array TypeId) (t : TypeId) (x y : Int) (w : World), (Builtin.max_ at_ t #[.int .i64 x, .int .i64 y]).run Try.prog w = .ok (.int .i64 (mx x y)) w := fun at_ t x y w => by simp [Builtin.max_, Builtin.max2, mx]
  have hb := sat_bd x
  have cs := fun W => saturate_b x W
  unfold ext
  obtain ⟨y, hy⟩ : ∃ y, sat x = y := ⟨_, rfl⟩
  rw [hy] at hb cs ⊢
  have CS := Lib.hid cs
  have g1 : IntKind.i64.wrap (-y) = -y := IntWalk.i64_in _ (by omega)
  clear hb hy cs
  go_enter Try.func27, Try.ntmps27
  go_wp2_with (first | (go_at_call 37; (with_reducible refine (CS.out _).mono ?_); rintro _ V1 ⟨rfl, B⟩; replace BB := bon BB B; clear B))
  go_ret
  exact ⟨rfl, BB⟩

set_option maxRecDepth 100000 in
set_option maxHeartbeats 2000000 in
theorem rext_b (x n : Int) (w : World) : Calls Try.prog 28 #[.int .i64 x, .int .i64 n] w fun e w' => e = .returned (.int .i64 (ext x * clampv n 1 64)) ∧ Below w.heap.size w w' := by
  have BB := Below.refl w.heap.size w
  have hmax : ∀ (at_ : Array TypeId) (t : TypeId) (x y : Int) (w : World), (Builtin.max_ at_ t #[.int .i64 x, .int .i64 y]).run Try.prog w = .ok (.int .i64 (mx x y)) w := fun at_ t x y w => by simp [Builtin.max_, Builtin.max2, mx]
  have hb := sat_bd x
  have cs := fun W => rsaturate_b x W
  have cc := fun W => rclamp_b n 1 64 W
  have g2 : IntKind.i64.wrap (ext x * clampv n 1 64) = ext x * clampv n 1 64 := IntWalk.i64_in _ (by have := exv_rng x n; omega)
  unfold ext at g2 ⊢
  obtain ⟨y, hy⟩ : ∃ y, sat x = y := ⟨_, rfl⟩
  rw [hy] at hb cs g2 ⊢
  obtain ⟨m, hm⟩ : ∃ m, clampv n 1 64 = m := ⟨_, rfl⟩
  rw [hm] at cc g2 ⊢
  have CS := Lib.hid cs
  have CC := Lib.hid cc
  have g1 : IntKind.i64.wrap (-y) = -y := IntWalk.i64_in _ (by omega)
  clear hb hy cs cc hm
  go_enter Try.func28, Try.ntmps28
  go_wp2_with (first | (go_at_call 43; (with_reducible refine (CS.out _).mono ?_); rintro _ V1 ⟨rfl, B⟩; replace BB := bon BB B; clear B) | (go_at_call 22; (with_reducible refine (CC.out _).mono ?_); rintro _ V1 ⟨rfl, B⟩; replace BB := bon BB B; clear B))
  go_ret
  exact ⟨rfl, BB⟩

set_option maxRecDepth 100000 in
set_option maxHeartbeats 2000000 in
theorem rlog2_b (x : Int) (w : World) : Calls Try.prog 11 #[.int .i64 x] w fun e w' => e = .returned (.int .i64 (log2v x)) ∧ Below w.heap.size w w' := by
  have BB := Below.refl w.heap.size w
  have hmin : ∀ (at_ : Array TypeId) (t : TypeId) (x y : Int) (w : World), (Builtin.min_ at_ t #[.int .i64 x, .int .i64 y]).run Try.prog w = .ok (.int .i64 (mn x y)) w := fun at_ t x y w => by simp [Builtin.min_, Builtin.min2, mn]
  by_cases h : x < 1
  · rw [log2v_low h]
    clear hmin
    go_enter Try.func11, Try.ntmps11
    go_wp2
    go_ret
    exact ⟨rfl, BB⟩
  · have hy1 : 1 ≤ mn x 1099511627776 := by unfold mn; split <;> omega
    have hy2 : mn x 1099511627776 ≤ 1099511627776 := by unfold mn; split <;> omega
    have hv : log2v x = lg (mn x 1099511627776) := if_neg h
    rw [hv]
    obtain ⟨y, hy⟩ : ∃ y, mn x 1099511627776 = y := ⟨_, rfl⟩
    rw [hy] at hy1 hy2 ⊢
    have H1 := Lib.hid hy1
    have H2 := Lib.hid hy2
    have HF : Hid (∀ (k : Nat) (p : Int), pw k = p → p ≤ y → y < 2 * p → ∃ r : Int, rda ((y - p) * 65536) p = r ∧ 0 ≤ r ∧ r ≤ 65536 ∧ lg y = ((k : Int) - 16) * 65536 + r ∧ 1 ≤ p) := Lib.hid (fun k p hp h1 h2 => by
      obtain ⟨e, q, r, hb, e0, e40, hq, p1, p2, p3, hr, r0, r1, hl⟩ := lg_parts hy1 hy2
      have hbl := blen_is (y := y) (e := k) (by omega) (by rw [hp]; exact h1) (by rw [pw_succ k (by omega), hp]; exact h2)
      obtain rfl : e = k := by omega
      obtain rfl : q = p := by rw [← hq, ← hp]
      exact ⟨r, hr, r0, r1, hl, p1⟩)
    clear hv hy1 hy2
    go_enter Try.func11, Try.ntmps11
    go_wp2
    go_loopw [3, 4] (fun i s wr => ∃ (k : Nat) (p : Int), i = .int .i64 k ∧ s = .int .i64 p ∧ Hid (pw k = p) ∧ Hid (p ≤ y) ∧ k ≤ 40 ∧ Below w.heap.size w wr) (fun i _ _ => 41 - (intOf i).toNat)
    case atStart => exact ⟨0, 1, rfl, rfl, Lib.hid rfl, Lib.hid H1.out, by omega, BB⟩
    case round =>
      clear BB
      obtain ⟨k, p, rfl, rfl, hp, hpy, hk, BB⟩ := hrel
      have G0 : Hid (-9223372036854775808 ≤ 2 * p ∧ 2 * p ≤ 9223372036854775807) := Lib.hid (by have := hpy.out; have := H2.out; have := pw_pos k; have := hp.out; omega)
      have g0 : IntKind.i64.wrap (2 * p) = 2 * p := IntWalk.i64_in _ (by have := G0.out; omega)
      by_cases hlt : 2 * p ≤ y
      · have g1 : IntKind.i64.wrap ((k : Int) + 1) = (k : Int) + 1 := IntWalk.i64_in _ (by omega)
        have hk40 : Hid (k < 40) := Lib.hid (by
          rcases Nat.lt_or_ge k 40 with h | h
          · exact h
          · exfalso
            have h1 := pw_le 40 k (by omega)
            have h2 := hp.out
            have h3 := H2.out
            have h4 : pw 40 = 1099511627776 := rfl
            omega)
        go_wp2
        go_roundw
        case rel => exact ⟨k + 1, 2 * p, by go_num, rfl, Lib.hid (by have := pw_succ k (by omega); rw [hp.out] at this; exact_mod_cast this), Lib.hid hlt, by have := hk40.out; omega, BB⟩
        case measure => have := hk40.out; simp [intOf]; omega
      · obtain ⟨r, hr, r0, r1, hl, p1⟩ := HF.out k p hp.out hpy.out (by omega)
        have cr := fun W => rrounddiv_b ((y - p) * 65536) p W
        rw [hr] at cr
        have CR := Lib.hid cr
        have HL := Lib.hid hl
        have G3 : Hid (wrap64 (y - p) = y - p) := Lib.hid (IntWalk.wrap64_in _ (by have := H2.out; have := hpy.out; omega))
        have G4 : Hid (wrap64 ((y - p) * 65536) = (y - p) * 65536) := Lib.hid (IntWalk.wrap64_in _ (by have := H2.out; have := hpy.out; omega))
        have g1 : IntKind.i64.wrap ((k : Int) - 16) = (k : Int) - 16 := IntWalk.i64_in _ (by omega)
        have g2 : IntKind.i64.wrap (((k : Int) - 16) * 65536) = ((k : Int) - 16) * 65536 := IntWalk.i64_in _ (by omega)
        have g5 : IntKind.i64.wrap (((k : Int) - 16) * 65536 + r) = ((k : Int) - 16) * 65536 + r := IntWalk.i64_in _ (by omega)
        clear cr hl hr r0 r1 p1 hk
        go_wp2_with (first
          | (go_at_call 26; rw [G3.out, G4.out]; (with_reducible refine (CR.out _).mono ?_); rintro _ V1 ⟨rfl, B⟩; replace BB := bon BB B; clear B))
        go_ret
        exact ⟨by rw [HL.out]; rfl, BB⟩

theorem args_22 (w : World) (x0 x1 y0 y1 : Value) (t u : TypeId) :
    Below w.heap.size w ((w.alloc (.cells #[x0, x1] t)).alloc (.cells #[y0, y1] u)) ∧ ((w.alloc (.cells #[x0, x1] t)).alloc (.cells #[y0, y1] u)).cell? ⟨w.heap.size, 0, none⟩ = some x0 ∧
      ((w.alloc (.cells #[x0, x1] t)).alloc (.cells #[y0, y1] u)).cell? ⟨w.heap.size, 1, none⟩ = some x1 ∧ ((w.alloc (.cells #[x0, x1] t)).alloc (.cells #[y0, y1] u)).cell? ⟨w.heap.size + 1, 0, none⟩ = some y0 ∧
      ((w.alloc (.cells #[x0, x1] t)).alloc (.cells #[y0, y1] u)).cell? ⟨w.heap.size + 1, 1, none⟩ = some y1 := by
  have z1 : (w.alloc (.cells #[x0, x1] t)).heap.size = w.heap.size + 1 := by simp
  have b0 := box_below w #[x0, x1] t
  have b1 := box_below (w.alloc (.cells #[x0, x1] t)) #[y0, y1] u
  have c0 := box_cell w #[x0, x1] t 0 x0 rfl
  have c1 := box_cell w #[x0, x1] t 1 x1 rfl
  have d0 := box_cell (w.alloc (.cells #[x0, x1] t)) #[y0, y1] u 0 y0 rfl
  have d1 := box_cell (w.alloc (.cells #[x0, x1] t)) #[y0, y1] u 1 y1 rfl
  rw [z1] at d0 d1
  exact ⟨bon b0 b1, cell_below b1 c0, cell_below b1 c1, d0, d1⟩

set_option maxRecDepth 100000 in
set_option maxHeartbeats 4000000 in
theorem sfoot_b (wd ht a b c d : Int) (w : World) :
    Calls Try.prog 12 #[.int .i64 wd, .int .i64 ht, .agg #[.int .i64 a, .int .i64 b], .agg #[.int .i64 c, .int .i64 d]] w fun e w' => e = .returned (.int .i64 (ftv wd ht a b c d)) ∧ Below w.heap.size w w' := by
  obtain ⟨BB, c0, c1, d0, d1⟩ := args_22 w (.int .i64 a) (.int .i64 b) (.int .i64 c) (.int .i64 d) 31 31
  have hmax : ∀ (at_ : Array TypeId) (t : TypeId) (x y : Int) (w : World), (Builtin.max_ at_ t #[.int .i64 x, .int .i64 y]).run Try.prog w = .ok (.int .i64 (mx x y)) w := fun at_ t x y w => by simp [Builtin.max_, Builtin.max2, mx]
  have hmax4 : ∀ (at_ : Array TypeId) (t : TypeId) (x y z u : Int) (w : World), (Builtin.max_ at_ t #[.int .i64 x, .int .i64 y, .int .i64 z, .int .i64 u]).run Try.prog w = .ok (.int .i64 (mx (mx (mx x y) z) u)) w := fun at_ t x y z u w => by (simp [Builtin.max_, Builtin.max2, mx]; try rfl)
  unfold ftv
  rw [exv_ext, exv_ext, exv_ext, exv_ext, ← mx_assoc]
  have l1 := fun W => slen_b a W
  have l2 := fun W => slen_b b W
  have l3 := fun W => slen_b c W
  have l4 := fun W => slen_b d W
  have k1 := fun W => clamp_b wd 1 64 W
  have k2 := fun W => clamp_b ht 1 64 W
  have g1 := IntWalk.i64_in _ (exv_rng a wd)
  have g2 := IntWalk.i64_in _ (exv_rng b ht)
  have g3 := IntWalk.i64_in _ (exv_rng c wd)
  have g4 := IntWalk.i64_in _ (exv_rng d ht)
  obtain ⟨p, hp⟩ : ∃ p, ext a = p := ⟨_, rfl⟩
  obtain ⟨q, hq⟩ : ∃ p, ext b = p := ⟨_, rfl⟩
  obtain ⟨r, hr⟩ : ∃ p, ext c = p := ⟨_, rfl⟩
  obtain ⟨s, hs⟩ : ∃ p, ext d = p := ⟨_, rfl⟩
  obtain ⟨m, hm⟩ : ∃ p, clampv wd 1 64 = p := ⟨_, rfl⟩
  obtain ⟨n, hn⟩ : ∃ p, clampv ht 1 64 = p := ⟨_, rfl⟩
  rw [hp] at l1 g1 ⊢
  rw [hq] at l2 g2 ⊢
  rw [hr] at l3 g3 ⊢
  rw [hs] at l4 g4 ⊢
  rw [hm] at k1 g1 g3 ⊢
  rw [hn] at k2 g2 g4 ⊢
  have L1 := Lib.hid l1
  have L2 := Lib.hid l2
  have L3 := Lib.hid l3
  have L4 := Lib.hid l4
  have K1 := Lib.hid k1
  have K2 := Lib.hid k2
  have C5 := Lib.hid (fun W => slog2_b (mx (mx (mx (p * m) (q * n)) (r * m)) (s * n)) W)
  clear l1 l2 l3 l4 k1 k2 hp hq hr hs hm hn
  go_enter Try.func12, Try.ntmps12
  go_wp2_with (first
    | (go_at_call 19; (with_reducible refine (K1.out _).mono ?_); rintro _ V1 ⟨rfl, B⟩; (replace BB := bon BB B; replace c0 := cell_below B c0; replace c1 := cell_below B c1; replace d0 := cell_below B d0; replace d1 := cell_below B d1); clear B)
    | (go_at_call 19; (with_reducible refine (K2.out _).mono ?_); rintro _ V1 ⟨rfl, B⟩; (replace BB := bon BB B; replace c0 := cell_below B c0; replace c1 := cell_below B c1; replace d0 := cell_below B d0; replace d1 := cell_below B d1); clear B))
  have k_c0 := cell_regrown c0
  have k_c1 := cell_regrown c1
  have k_d0 := cell_regrown d0
  have k_d1 := cell_regrown d1
  refine wp_region_quiet_below (by kernel_rfl) (by kernel_rfl) ?_
  repeat (first | go_big_quiet_step ((first | (go_at_call 27; with_reducible exact Calls.regrown_of (L1.out _)) | (go_at_call 27; with_reducible exact Calls.regrown_of (L2.out _)) | (go_at_call 27; with_reducible exact Calls.regrown_of (L3.out _)) | (go_at_call 27; with_reducible exact Calls.regrown_of (L4.out _)))) | quiet_step ((first | (go_at_call 27; with_reducible exact Calls.regrown_of (L1.out _)) | (go_at_call 27; with_reducible exact Calls.regrown_of (L2.out _)) | (go_at_call 27; with_reducible exact Calls.regrown_of (L3.out _)) | (go_at_call 27; with_reducible exact Calls.regrown_of (L4.out _)))))
  refine wpQuiet_nil ?_
  intro W hw'
  have B := below_regrown' hw'
  clear hw' k_c0 k_c1 k_d0 k_d1
  replace BB := bon BB B
  replace c0 := cell_below B c0
  replace c1 := cell_below B c1
  replace d0 := cell_below B d0
  replace d1 := cell_below B d1
  go_wp2_with (first
    | (go_at_call 10; (with_reducible refine (C5.out _).mono ?_); rintro _ V1 ⟨rfl, B⟩; replace BB := bon BB B; clear B))
  go_ret
  exact ⟨rfl, BB⟩

set_option maxRecDepth 100000 in
set_option maxHeartbeats 4000000 in
theorem rfoot_b (wd ht a b c d : Int) (w : World) :
    Calls Try.prog 13 #[.int .i64 wd, .int .i64 ht, .agg #[.int .i64 a, .int .i64 b], .agg #[.int .i64 c, .int .i64 d]] w fun e w' => e = .returned (.int .i64 (ftv wd ht a b c d)) ∧ Below w.heap.size w w' := by
  obtain ⟨BB, c0, c1, d0, d1⟩ := args_22 w (.int .i64 a) (.int .i64 b) (.int .i64 c) (.int .i64 d) 31 31
  have hmax : ∀ (at_ : Array TypeId) (t : TypeId) (x y : Int) (w : World), (Builtin.max_ at_ t #[.int .i64 x, .int .i64 y]).run Try.prog w = .ok (.int .i64 (mx x y)) w := fun at_ t x y w => by simp [Builtin.max_, Builtin.max2, mx]
  unfold ftv
  rw [exv_ext, exv_ext, exv_ext, exv_ext]
  have l1 := fun W => rext_b a wd W
  have l2 := fun W => rext_b b ht W
  have l3 := fun W => rext_b c wd W
  have l4 := fun W => rext_b d ht W
  obtain ⟨p, hp⟩ : ∃ p, ext a * clampv wd 1 64 = p := ⟨_, rfl⟩
  obtain ⟨q, hq⟩ : ∃ p, ext b * clampv ht 1 64 = p := ⟨_, rfl⟩
  obtain ⟨r, hr⟩ : ∃ p, ext c * clampv wd 1 64 = p := ⟨_, rfl⟩
  obtain ⟨s, hs⟩ : ∃ p, ext d * clampv ht 1 64 = p := ⟨_, rfl⟩
  rw [hp] at l1 ⊢
  rw [hq] at l2 ⊢
  rw [hr] at l3 ⊢
  rw [hs] at l4 ⊢
  have L1 := Lib.hid l1
  have L2 := Lib.hid l2
  have L3 := Lib.hid l3
  have L4 := Lib.hid l4
  have C5 := Lib.hid (fun W => rlog2_b (mx (mx p q) (mx r s)) W)
  clear l1 l2 l3 l4 hp hq hr hs
  go_enter Try.func13, Try.ntmps13
  go_wp2
  have k_c0 := cell_regrown c0
  have k_c1 := cell_regrown c1
  have k_d0 := cell_regrown d0
  have k_d1 := cell_regrown d1
  refine wp_region_quiet_below (by kernel_rfl) (by kernel_rfl) ?_
  repeat (first | go_big_quiet_step ((first | (go_at_call 28; with_reducible exact Calls.regrown_of (L1.out _)) | (go_at_call 28; with_reducible exact Calls.regrown_of (L2.out _)))) | quiet_step ((first | (go_at_call 28; with_reducible exact Calls.regrown_of (L1.out _)) | (go_at_call 28; with_reducible exact Calls.regrown_of (L2.out _)))))
  refine wpQuiet_nil ?_
  intro W hw'
  have B := below_regrown' hw'
  clear hw' k_c0 k_c1 k_d0 k_d1
  replace BB := bon BB B
  replace c0 := cell_below B c0
  replace c1 := cell_below B c1
  replace d0 := cell_below B d0
  replace d1 := cell_below B d1
  go_wp2
  have k_c0 := cell_regrown c0
  have k_c1 := cell_regrown c1
  have k_d0 := cell_regrown d0
  have k_d1 := cell_regrown d1
  refine wp_region_quiet_below (by kernel_rfl) (by kernel_rfl) ?_
  repeat (first | go_big_quiet_step ((first | (go_at_call 28; with_reducible exact Calls.regrown_of (L3.out _)) | (go_at_call 28; with_reducible exact Calls.regrown_of (L4.out _)))) | quiet_step ((first | (go_at_call 28; with_reducible exact Calls.regrown_of (L3.out _)) | (go_at_call 28; with_reducible exact Calls.regrown_of (L4.out _)))))
  refine wpQuiet_nil ?_
  intro W hw'
  have B := below_regrown' hw'
  clear hw' k_c0 k_c1 k_d0 k_d1
  replace BB := bon BB B
  replace c0 := cell_below B c0
  replace c1 := cell_below B c1
  replace d0 := cell_below B d0
  replace d1 := cell_below B d1
  go_wp2_with (first
    | (go_at_call 11; (with_reducible refine (C5.out _).mono ?_); rintro _ V1 ⟨rfl, B⟩; replace BB := bon BB B; clear B))
  go_ret
  exact ⟨rfl, BB⟩

end Go.Proofs.Ytoipmldbjciinaa
